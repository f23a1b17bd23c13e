/-
  The walk of the law MixBlocks.
-/
import Derived.Test.YtklfeekcfmkgfabDoorFillWalk
import Derived.Test.YtklfeekcfmkgfabDoorStreamLaws
namespace Go.Proofs.YtklfeekcfmkgfabDoor
open Go.RowKit

set_option maxHeartbeats 4000000 in
set_option maxRecDepth 100000 in
theorem mixBlocks_walk (v0 : Value) (l0 : List Int) (a1 : Int) (v2 : Value) (l2 : List Int) (v3 : Value) (l3 : List Int) (w : World) (h0 : Sl w v0 l0) (b1 : -9223372036854775808 ≤ a1) (b1' : a1 ≤ 9223372036854775807) (h2 : Sl w v2 l2) (h3 : Sl w v3 l3) (ht : QTab w) :
    Calls Tryd.prog 3 #[v0, .int .i64 a1, v2, v3] w fun e w' => e = .returned (.bool true) ∧ Below w.heap.size w w' := by
  obtain ⟨i0, hi, hz0, hz1, hz2⟩ := info_parts info5
  have hpos := ht.pos
  go_enter Tryd.func3, Tryd.ntmps3
  go_wp2_with fail
  refine (fill_any v0 l0 32 w h0 (by omega)).mono ?_
  rintro e w1 ⟨vk, rfl, ok, c1⟩
  have lk := fillL_length l0 32
  have sk : Sl w1 vk (fillL l0 32) := Sl.ofOwns ok (by omega) (fillL_byte h0.byte 32)
  generalize fillL l0 32 = K at lk sk
  clear ok
  go_wp2_with fail
  refine (fill_any v2 l2 12 w1 (h2.below c1) (by omega)).mono ?_
  rintro e w2 ⟨vn, rfl, on, c2⟩
  have ln := fillL_length l2 12
  have sn : Sl w2 vn (fillL l2 12) := Sl.ofOwns on (by omega) (fillL_byte h2.byte 12)
  generalize fillL l2 12 = N at ln sn
  clear on
  have d2 : Below w.heap.size w w2 := c1.trans (c2.mono c1.size)
  replace sk := sk.below c2
  go_wp2_with fail
  refine (picked_any a1 1073741814 w2 b1 b1' (by omega) (by omega)).mono ?_
  rintro e w3 ⟨rfl, rfl⟩
  obtain ⟨c, hc, hcl⟩ : ∃ c : Nat, pick a1 1073741814 = (c : Int) ∧ c ≤ 1073741813 := by
    have := pick_range a1 1073741814 (by omega)
    exact ⟨(pick a1 1073741814).toNat, by omega, by omega⟩
  rw [hc]
  clear hc
  go_wp2_with fail
  refine (some_any v3 l3 300 w3 (h3.below d2) (by omega)).mono ?_
  rintro e w4 ⟨vp, rfl, op, c4⟩
  have lp : (l3.take 300).length ≤ 300 := by rw [List.length_take]; omega
  have yp : ∀ x ∈ l3.take 300, 0 ≤ x ∧ x < 256 := fun x hx => h3.byte x (List.mem_of_mem_take hx)
  have sp : Sl w4 vp (l3.take 300) := Sl.ofOwns op (by omega) yp
  generalize l3.take 300 = P at lp yp sp
  clear op
  replace sk := sk.below c4
  replace sn := sn.below c4
  have d4 : Below w.heap.size w w4 := d2.trans (c4.mono d2.size)
  go_wp2_with fail
  refine (mix_ok vk vn vp K N P c w4 sk sn sp lk ln (by omega) (by omega) (ht.below hpos d4)).mono ?_
  rintro e w5 ⟨vx, rfl, f5⟩
  have sx := f5.sl
  have c5 := f5.bel
  have d5 : Below w.heap.size w w5 := d4.trans (c5.mono d4.size)
  replace sk := sk.below c5
  replace sn := sn.below c5
  replace sp := sp.below c5
  have ht5 : QTab w5 := ht.below hpos d5
  have hpos5 := ht5.pos
  clear f5 h0 h2 h3 c1 c2 c4 c5 d2 d4
  obtain ⟨ap, cp, rfl⟩ := sp.shape
  have hPn : ∃ n, n = P.length := ⟨_, rfl⟩
  obtain ⟨n, hn⟩ := hPn
  have HN : Hid (P.length = n) := hn.symm
  rw [← hn] at sp lp ⊢
  clear hn
  go_wp2_with fail
  go_loopw [15, 16, 17] (fun va vp i wr => ∃ (q : Nat) (aa ab : Option Addr) (ca cb : Nat), 64 * q < n + 64 ∧ i = .int .i64 q ∧ va = .slice aa (64 * q) ca ∧ vp = .slice ab (min (64 * q) n) cb ∧ wr.ownsRow w5.heap.size 5 1 va (blocksL K N c q).length ((blocksL K N c q).map (Value.int .u8)) ∧ wr.ownsRow w5.heap.size 5 1 vp (mixTo (begunL K (BitVec.ofNat 32 c) N) P (min (64 * q) n)).length ((mixTo (begunL K (BitVec.ofNat 32 c) N) P (min (64 * q) n)).map (Value.int .u8)) ∧ (∀ k, va.ownBlock = some k → vp.ownBlock ≠ some k) ∧ Below w5.heap.size w5 wr) (fun _ _ i _ => 10 - (intOf i).toNat)
  case atStart => exact ⟨0, none, none, 0, 0, by omega, rfl, rfl, by simp, World.ownsRow_nil _ _ _ _, by simpa [mixTo] using World.ownsRow_nil _ _ _ _, by simp [Value.ownBlock], Below.refl _ _⟩
  case round =>
    obtain ⟨q, aa, ab, ca, cb, hq, rfl, rfl, rfl, howa, howb, hne, hb⟩ := hrel
    by_cases hqn : 64 * q < n
    · have hqni : 64 * (q : Int) < (n : Int) := by omega
      have hmin : min (64 * q) n = 64 * q := by omega
      rw [hmin] at howb hne ⊢
      have HMIN : Hid (min (64 * q) n = 64 * q) := hmin
      clear hmin
      have hak : ∀ k, Value.ownBlock (.slice aa (64 * q) ca) = some k → k < wr.heap.size := fun k hk => (howa.lt k hk).2
      have hbk : ∀ k, Value.ownBlock (.slice ab (64 * q) cb) = some k → k < wr.heap.size := fun k hk => (howb.lt k hk).2
      obtain ⟨bp, opp, rfl⟩ : ∃ bp op, ap = some ⟨bp, op, none⟩ := by
        obtain ⟨⟨a', cap', e', _, _, h1'⟩, _, _⟩ := sp
        rw [HN.out] at e'
        simp only [Value.slice.injEq] at e'
        obtain ⟨rfl, _, _⟩ := e'
        rcases h1' with h1' | ⟨b', o', rfl, _, _⟩
        · have := HN.out; rw [h1'] at this; simp at this; omega
        · exact ⟨b', o', rfl⟩
      have hcp : n ≤ cp := by
        obtain ⟨⟨a', cap', e', hc', _, _⟩, _, _⟩ := sp
        rw [HN.out] at e' hc'
        simp only [Value.slice.injEq] at e'
        omega
      have hcpq : ¬ cp = 64 * q := by omega
      go_wp2_with fail
      refine (block_at vk vn K N _ (c + q) (by omega) wr (sk.below hb) (sn.below hb) lk ln (by omega) (ht5.below hpos5 hb)).mono ?_
      rintro e w6 ⟨vb, rfl, f6⟩
      have sb := f6.sl
      have c6 := f6.bel
      have nb := f6.new
      have hb6 : Below w5.heap.size w5 w6 := hb.trans (c6.mono hb.size)
      have sp6 := sp.below hb6
      replace howa := owns_keep howa (fun k hk => c6.block k (hak k hk))
      replace howb := owns_keep howb (fun k hk => c6.block k (hbk k hk))
      clear f6
      by_cases h64 : 64 * q + 64 ≤ n
      · have h64i : 64 * (q : Int) + 64 ≤ (n : Int) := by omega
        have hmixp := mix_parts K N P c q (by rw [HN.out]; exact hqn)
        rw [HN.out] at hmixp
        have HMP : Hid _ := hmixp
        clear hmixp
        have sdat : Sl w6 (.slice (some ⟨bp, opp + 64 * q, none⟩) ((64 * q + 64) - 64 * q) (cp - 64 * q)) ((P.take (min (64 * q + 64) n)).drop (64 * q)) := by
          have t1 := sp6.take ((64 * q + 64)) (by rw [HN.out]; omega)
          have hlen : (P.take ((64 * q + 64))).length = (64 * q + 64) := by rw [List.length_take, HN.out]; omega
          have t2 := Sl.drop t1 (64 * q) (by rw [hlen]; omega) (cp - 64 * q) (by rw [hlen]; omega)
          rw [hlen] at t2
          rw [show min (64 * q + 64) n = (64 * q + 64) by omega]
          exact t2
        have ldat : ((P.take (min (64 * q + 64) n)).drop (64 * q)).length ≤ 64 := by rw [List.length_drop, List.length_take, HN.out]; omega
        generalize (P.take (min (64 * q + 64) n)).drop (64 * q) = D at sdat ldat HMP
        rw [show 64 * q + 64 - 64 * q = 64 by omega] at sdat
        go_wp2_with fail
        refine (mix_at vk vn _ K N D _ (c + q) (by omega) w6 (sk.below hb6) (sn.below hb6) sdat lk ln (by omega) (by omega) (ht5.below hpos5 hb6)).mono ?_
        rintro e w7 ⟨vy, rfl, f7⟩
        have sy := f7.sl
        have c7 := f7.bel
        have ny := f7.new
        have hb7 : Below w5.heap.size w5 w7 := hb6.trans (c7.mono hb6.size)
        replace sb := sb.below c7
        replace howa := owns_keep howa (fun k hk => c7.block k (Nat.lt_of_lt_of_le (hak k hk) c6.size))
        replace howb := owns_keep howb (fun k hk => c7.block k (Nat.lt_of_lt_of_le (hbk k hk) c6.size))
        obtain ⟨ay, cy, rfl⟩ := sy.shape
        obtain ⟨abl, cbl, rfl⟩ := sb.shape
        rw [blockL_length] at *
        clear f7 sp6 sdat
        go_wp2_with (at_builtin; refine wpList_append_at _ rfl _ _ 22 rfl w5.heap.size 5 Tryd.underlying22 info5 _ _ rfl rfl (blocksL K N c q) (blockL (begunL K (BitVec.ofNat 32 (c + q)) N)) howa sb (by rw [blocksL_length, blockL_length]; omega) hb7.size ?_)
        intro va' w8 ho80 hg8 hw8
        have ho8 : w8.ownsRow w5.heap.size 5 1 va' (blocksL K N c (q + 1)).length ((blocksL K N c (q + 1)).map (Value.int .u8)) := by simpa [blocksL] using ho80
        clear ho80
        have hb8 : Below w5.heap.size w5 w8 := hb7.grown hg8 hb7.size (fun k hk => (howa.lt k hk).1)
        have howb8 := owns_keep howb (fun k hk => hg8.block k ((howb.lt k hk).2) (fun e => hne k e.symm hk))
        have sy8 := sy.grown hg8 (fun b o m c e => by
          intro e2
          have h1 := ny b o m c e
          have h2 := hak b e2.symm
          have h3 := c6.size
          omega)
        go_wp2_with (at_builtin; refine wpList_append_at _ rfl _ _ 22 rfl w5.heap.size 5 Tryd.underlying22 info5 _ _ rfl rfl (mixTo (begunL K (BitVec.ofNat 32 c) N) P (64 * q)) (mixL (begunL K (BitVec.ofNat 32 (c + q)) N) D) howb8 sy8 (by rw [mixTo_length, mixL_length]; omega) hb8.size ?_)
        intro vp' w9 ho9 hg9 hw9
        have hb9 : Below w5.heap.size w5 w9 := hb8.grown hg9 hb8.size (fun k hk => (howb8.lt k hk).1)
        have hsep : ∀ k, va'.ownBlock = some k → Value.ownBlock (.slice ab (64 * q) cb) ≠ some k := by
          intro k hk e
          rcases hw8 with h | h
          · exact hne k (h ▸ hk) e
          · have h1 := (howb.lt k e).2
            rw [h] at hk
            simp only [Option.some.injEq] at hk
            omega
        have howa9 := owns_keep ho8 (fun k hk => hg9.block k ((ho8.lt k hk).2) (fun e => hsep k hk e.symm))
        have hne9 : ∀ k, va'.ownBlock = some k → vp'.ownBlock ≠ some k := by
          intro k hk e
          rcases hw9 with h | h
          · exact hsep k hk (h ▸ e)
          · have h1 := (ho8.lt k hk).2
            rw [h] at e
            simp only [Option.some.injEq] at e
            omega
        obtain ⟨a8, c8, hv8⟩ := owns_shape2 ho8
        rw [blocksL_length] at hv8
        have ho9' : w9.ownsRow w5.heap.size 5 1 vp' (mixTo (begunL K (BitVec.ofNat 32 c) N) P (min (64 * (q + 1)) n)).length ((mixTo (begunL K (BitVec.ofNat 32 c) N) P (min (64 * (q + 1)) n)).map (Value.int .u8)) := by rw [← HMP.out]; simpa using ho9
        obtain ⟨a9, c9, hv9⟩ := owns_shape2 ho9'
        rw [mixTo_length] at hv9
        have HV8 : Hid _ := hv8
        have HV9 : Hid _ := hv9
        clear hv8 hv9 ho9 hg9 hg8 hw8 hw9 hsep howb8 sy8 sy sb howa howb hne c7 c6 ny nb hak hbk
        go_wp2
        go_roundw
        case rel => exact ⟨q + 1, a8, a9, c8, c9, by omega, by go_num, HV8.out, HV9.out, howa9, ho9', hne9, hb9⟩
        case measure => simp [intOf]; omega
      · have h64i : ¬ 64 * (q : Int) + 64 ≤ (n : Int) := by omega
        have hmixp := mix_parts K N P c q (by rw [HN.out]; exact hqn)
        rw [HN.out] at hmixp
        have HMP : Hid _ := hmixp
        clear hmixp
        have sdat : Sl w6 (.slice (some ⟨bp, opp + 64 * q, none⟩) (n - 64 * q) (cp - 64 * q)) ((P.take (min (64 * q + 64) n)).drop (64 * q)) := by
          have t1 := sp6.take (n) (by rw [HN.out]; omega)
          have hlen : (P.take (n)).length = n := by rw [List.length_take, HN.out]; omega
          have t2 := Sl.drop t1 (64 * q) (by rw [hlen]; omega) (cp - 64 * q) (by rw [hlen]; omega)
          rw [hlen] at t2
          rw [show min (64 * q + 64) n = n by omega]
          exact t2
        have ldat : ((P.take (min (64 * q + 64) n)).drop (64 * q)).length ≤ 64 := by rw [List.length_drop, List.length_take, HN.out]; omega
        generalize (P.take (min (64 * q + 64) n)).drop (64 * q) = D at sdat ldat HMP
        go_wp2_with fail
        refine (mix_at vk vn _ K N D _ (c + q) (by omega) w6 (sk.below hb6) (sn.below hb6) sdat lk ln (by omega) (by omega) (ht5.below hpos5 hb6)).mono ?_
        rintro e w7 ⟨vy, rfl, f7⟩
        have sy := f7.sl
        have c7 := f7.bel
        have ny := f7.new
        have hb7 : Below w5.heap.size w5 w7 := hb6.trans (c7.mono hb6.size)
        replace sb := sb.below c7
        replace howa := owns_keep howa (fun k hk => c7.block k (Nat.lt_of_lt_of_le (hak k hk) c6.size))
        replace howb := owns_keep howb (fun k hk => c7.block k (Nat.lt_of_lt_of_le (hbk k hk) c6.size))
        obtain ⟨ay, cy, rfl⟩ := sy.shape
        obtain ⟨abl, cbl, rfl⟩ := sb.shape
        rw [blockL_length] at *
        clear f7 sp6 sdat
        go_wp2_with (at_builtin; refine wpList_append_at _ rfl _ _ 22 rfl w5.heap.size 5 Tryd.underlying22 info5 _ _ rfl rfl (blocksL K N c q) (blockL (begunL K (BitVec.ofNat 32 (c + q)) N)) howa sb (by rw [blocksL_length, blockL_length]; omega) hb7.size ?_)
        intro va' w8 ho80 hg8 hw8
        have ho8 : w8.ownsRow w5.heap.size 5 1 va' (blocksL K N c (q + 1)).length ((blocksL K N c (q + 1)).map (Value.int .u8)) := by simpa [blocksL] using ho80
        clear ho80
        have hb8 : Below w5.heap.size w5 w8 := hb7.grown hg8 hb7.size (fun k hk => (howa.lt k hk).1)
        have howb8 := owns_keep howb (fun k hk => hg8.block k ((howb.lt k hk).2) (fun e => hne k e.symm hk))
        have sy8 := sy.grown hg8 (fun b o m c e => by
          intro e2
          have h1 := ny b o m c e
          have h2 := hak b e2.symm
          have h3 := c6.size
          omega)
        go_wp2_with (at_builtin; refine wpList_append_at _ rfl _ _ 22 rfl w5.heap.size 5 Tryd.underlying22 info5 _ _ rfl rfl (mixTo (begunL K (BitVec.ofNat 32 c) N) P (64 * q)) (mixL (begunL K (BitVec.ofNat 32 (c + q)) N) D) howb8 sy8 (by rw [mixTo_length, mixL_length]; omega) hb8.size ?_)
        intro vp' w9 ho9 hg9 hw9
        have hb9 : Below w5.heap.size w5 w9 := hb8.grown hg9 hb8.size (fun k hk => (howb8.lt k hk).1)
        have hsep : ∀ k, va'.ownBlock = some k → Value.ownBlock (.slice ab (64 * q) cb) ≠ some k := by
          intro k hk e
          rcases hw8 with h | h
          · exact hne k (h ▸ hk) e
          · have h1 := (howb.lt k e).2
            rw [h] at hk
            simp only [Option.some.injEq] at hk
            omega
        have howa9 := owns_keep ho8 (fun k hk => hg9.block k ((ho8.lt k hk).2) (fun e => hsep k hk e.symm))
        have hne9 : ∀ k, va'.ownBlock = some k → vp'.ownBlock ≠ some k := by
          intro k hk e
          rcases hw9 with h | h
          · exact hsep k hk (h ▸ e)
          · have h1 := (ho8.lt k hk).2
            rw [h] at e
            simp only [Option.some.injEq] at e
            omega
        obtain ⟨a8, c8, hv8⟩ := owns_shape2 ho8
        rw [blocksL_length] at hv8
        have ho9' : w9.ownsRow w5.heap.size 5 1 vp' (mixTo (begunL K (BitVec.ofNat 32 c) N) P (min (64 * (q + 1)) n)).length ((mixTo (begunL K (BitVec.ofNat 32 c) N) P (min (64 * (q + 1)) n)).map (Value.int .u8)) := by rw [← HMP.out]; simpa using ho9
        obtain ⟨a9, c9, hv9⟩ := owns_shape2 ho9'
        rw [mixTo_length] at hv9
        have HV8 : Hid _ := hv8
        have HV9 : Hid _ := hv9
        clear hv8 hv9 ho9 hg9 hg8 hw8 hw9 hsep howb8 sy8 sy sb howa howb hne c7 c6 ny nb hak hbk
        go_wp2
        go_roundw
        case rel => exact ⟨q + 1, a8, a9, c8, c9, by omega, by go_num, HV8.out, HV9.out, howa9, ho9', hne9, hb9⟩
        case measure => simp [intOf]; omega
    · have hqni : ¬ 64 * (q : Int) < (n : Int) := by omega
      have hmin : min (64 * q) n = n := by omega
      rw [hmin] at howb ⊢
      have hall := blocks_all K N c q n (by omega)
      have hmixn : mixTo (begunL K (BitVec.ofNat 32 c) N) P n = mixL (begunL K (BitVec.ofNat 32 c) N) P := by rw [mixL, HN.out]
      have sa := Sl.ofOwns howa (by rw [blocksL_length]; omega) (blocksL_byte K N c q)
      have sb := Sl.ofOwns howb (by rw [mixTo_length]; omega) (mixTo_byte _ yp n)
      rw [hmixn] at sb
      have scut := sa.take n (by rw [blocksL_length]; omega)
      rw [← hall] at scut
      have hca : 64 * q ≤ ca := by
        rcases howa.2 with ⟨e, h0⟩ | ⟨g, cap, cur, e, _, _, hle, _⟩
        · simp only [Value.slice.injEq] at e
          omega
        · simp only [Value.slice.injEq] at e
          rw [blocksL_length] at hle
          omega
      have hnca : (n : Int) ≤ (ca : Int) := by omega
      clear howa howb hne hmin hall hmixn sa
      have d6 : Below w.heap.size w wr := d5.trans (hb.mono d5.size)
      replace sx := sx.below hb
      replace sk := sk.below hb
      replace sn := sn.below hb
      go_wp2_with (at_make; refine wpList_make_full _ rfl _ _ 22 rfl wr.heap.size 5 i0 (.int .u8 0) 1 Tryd.underlying22 hi hz0 hz1 _ _ _ _ n rfl rfl (by omega) (by omega) (by rw [hz2]; omega) (by unfold maxLen; omega) (by simp) ?_)
      intro w7 ho7 hg7
      have c7 : Below wr.heap.size wr w7 := (Below.refl _ _).grown hg7 (Nat.le_refl _) (by simp)
      have sd7 := Sl.made (n := n) ho7 (by omega)
      have d7 : Below w.heap.size w w7 := d6.trans (c7.mono d6.size)
      replace sx := sx.below c7
      replace sk := sk.below c7
      replace sn := sn.below c7
      replace sb := sb.below c7
      replace scut := scut.below c7
      clear ho7 hg7 hi hz0 hz1 hz2
      go_wp2_with fail
      refine (mix_ok vk vn _ K N _ c w7 sk sn sd7 lk ln (by omega) (by rw [List.length_replicate]; omega) (ht.below hpos d7)).mono ?_
      rintro e w8 ⟨vz, rfl, f8⟩
      have sz := f8.sl
      have c8 := f8.bel
      have d8 : Below w.heap.size w w8 := d7.trans (c8.mono d7.size)
      clear f8
      go_wp2_with fail
      refine (block_ok vk vn K N c w8 (sk.below c8) (sn.below c8) lk ln (by omega) (ht.below hpos d8)).mono ?_
      rintro e w9 ⟨vw, rfl, f9⟩
      have sw := f9.sl
      have c9 := f9.bel
      have d9 : Below w.heap.size w w9 := d8.trans (c9.mono d8.size)
      clear f9
      replace sx := (sx.below c8).below c9
      replace sb := (sb.below c8).below c9
      replace scut := (scut.below c8).below c9
      replace sz := sz.below c9
      obtain ⟨aw, cw, rfl⟩ := sw.shape
      rw [blockL_length]
      clear c7 c8 c9 d6 d7 d8 sk sn sd7 hb sw sp
      go_wp2_with fail
      refine (keep_same _ _ _ _ w9 sx sb).mono ?_
      rintro e w10 ⟨rfl, rfl⟩
      rw [decide_eq_true rfl]
      go_wp2_with fail
      refine (keep_same _ _ _ _ w10 sz scut).mono ?_
      rintro e w11 ⟨rfl, rfl⟩
      rw [decide_eq_true rfl]
      go_wp2
      go_ret
      exact ⟨rfl, d9⟩
end Go.Proofs.YtklfeekcfmkgfabDoor
