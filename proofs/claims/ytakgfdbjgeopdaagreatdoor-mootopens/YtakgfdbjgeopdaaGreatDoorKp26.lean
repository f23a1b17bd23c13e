/-
  The walk of the document's own compression of a block.
-/
import Derived.Test.YtakgfdbjgeopdaaGreatDoorKp25
namespace Go.Proofs.YtakgfdbjgeopdaaGreatDoor
open Go.RowKit

set_option maxRecDepth 100000 in
theorem Wl.shape8 {w : World} {v : Value} {s : St} (h : Wl w v s.list) : ∃ g cap, v = .slice (some ⟨g, 0, none⟩) 8 cap ∧ g < w.heap.size ∧ 8 ≤ cap ∧ w.cell? ⟨g, 0, none⟩ = some (.int .i64 (uw s.a)) ∧ w.cell? ⟨g, 1, none⟩ = some (.int .i64 (uw s.b)) ∧ w.cell? ⟨g, 2, none⟩ = some (.int .i64 (uw s.c)) ∧ w.cell? ⟨g, 3, none⟩ = some (.int .i64 (uw s.d)) ∧ w.cell? ⟨g, 4, none⟩ = some (.int .i64 (uw s.e)) ∧ w.cell? ⟨g, 5, none⟩ = some (.int .i64 (uw s.f)) ∧ w.cell? ⟨g, 6, none⟩ = some (.int .i64 (uw s.g)) ∧ w.cell? ⟨g, 7, none⟩ = some (.int .i64 (uw s.h)) := by
  obtain ⟨g, cap, rfl, hg, hc, hcell⟩ := h.ex
  have l8 : s.list.length = 8 := rfl
  exact ⟨g, cap, rfl, hg, hc, hcell 0 (by omega), hcell 1 (by omega), hcell 2 (by omega), hcell 3 (by omega), hcell 4 (by omega), hcell 5 (by omega), hcell 6 (by omega), hcell 7 (by omega)⟩

set_option maxRecDepth 100000 in
theorem up_ref (s : St) (k w : BitVec 32) : (uw s.h + uw (big1 s.e) + uw (choice s.e s.f s.g) + uw k + uw w) % (4294967296 : Int) = uw (upS s k w) := by
  rw [uw_sum5]; rfl

set_option maxRecDepth 100000 in
theorem choice_ref' (e f g : BitVec 32) : Go.RowKit.wrap64 (bits .and .i64 (uw e) (uw f) + bits .and .i64 (Go.RowKit.wrap64 (4294967295 - uw e)) (uw g)) = uw (choice e f g) := by
  have h0 := uw_lo e
  have h1 := uw_hi e
  rw [show Go.RowKit.wrap64 (4294967295 - uw e) = 4294967295 - uw e by unfold Go.RowKit.wrap64; omega]
  have hc := choice_ref e f g
  have h2 := uw_lo (choice e f g)
  have h3 := uw_hi (choice e f g)
  generalize bits .and .i64 (uw e) (uw f) = p at hc ⊢
  generalize bits .and .i64 (4294967295 - uw e) (uw g) = q at hc ⊢
  unfold Go.RowKit.wrap64
  omega

set_option maxRecDepth 100000 in
theorem new_row8 (W : World) (x0 x1 x2 x3 x4 x5 x6 x7 : BitVec 32) : Wl (W.alloc (.cells #[.int .i64 (uw x0), .int .i64 (uw x1), .int .i64 (uw x2), .int .i64 (uw x3), .int .i64 (uw x4), .int .i64 (uw x5), .int .i64 (uw x6), .int .i64 (uw x7)] 3)) (.slice (some ⟨W.heap.size, 0, none⟩) 8 8) [x0, x1, x2, x3, x4, x5, x6, x7] :=
  Wl.ofRow (e := 3) (q := (0, 0)) (ws := [x0, x1, x2, x3, x4, x5, x6, x7]) (heap_alloc_new W _) rfl

set_option maxRecDepth 100000 in
theorem take_list8 (s : St) (t : St) (k : Nat) (hk : k < 8) : (addS s t).list.take (k + 1) = (addS s t).list.take k ++ [s.list.getD k 0#32 + t.list.getD k 0#32] := by
  obtain rfl | rfl | rfl | rfl | rfl | rfl | rfl | rfl : k = 0 ∨ k = 1 ∨ k = 2 ∨ k = 3 ∨ k = 4 ∨ k = 5 ∨ k = 6 ∨ k = 7 := by omega
  all_goals rfl

set_option maxHeartbeats 4000000 in
set_option maxRecDepth 100000 in
theorem compressed_any (vd vb : Value) (s : St) (l : List Int) (w : World) (hd : Wl w vd s.list) (hb : Sl w vb l) (hl : l.length = 64) :
    Calls Tryz.prog 139 #[vd, vb] w fun e w' => ∃ v', e = .returned v' ∧ Wl w' v' (mixS s (sched l)).list ∧ Below w.heap.size w w' := by
  obtain ⟨i0, hi0, hz0, hz1, hz2⟩ := info_parts info3
  go_enter Tryz.func139, Tryz.ntmps139
  go_wp2_with fail
  refine (ref_schedule vb l w hb hl).mono ?_
  rintro e w1 ⟨vw, rfl, hw1, b1⟩
  go_wp2_with fail
  refine (roots_any w1).mono ?_
  rintro e w2 ⟨vk, rfl, hk2, b2⟩
  have hw2 := hw1.below b2
  have B2 : Below w.heap.size w w2 := b1.trans (b2.mono b1.size)
  have hd2 := hd.below B2
  have lw := sched_length l
  generalize hsw : sched l = ws at hw2 lw
  have HM : Hid (sched l = ws) := hsw
  clear hsw
  obtain ⟨gw, cw, rfl, hgw, hcw, hcellw⟩ := hw2.ex
  obtain ⟨gk, ck, rfl, hgk, hck, hcellk⟩ := hk2.ex
  rw [lw] at hcw hcellw ⊢
  rw [kWs_length] at hck hcellk ⊢
  have HCW : Hid _ := hcellw
  have HCK : Hid _ := hcellk
  clear hcellw hcellk hw1 hk2 hw2 b1 b2 hd hb hl
  go_wp2_with fail
  go_loopw [7, 8] (fun v i wr => ∃ k : Nat, k ≤ 64 ∧ i = .int .i64 k ∧ Wl wr v (roundsS ws s k).list ∧ Below w2.heap.size w2 wr) (fun _ i _ => 64 - (intOf i).toNat)
  case atStart => exact ⟨0, by omega, rfl, hd2, Below.refl _ _⟩
  case round =>
    obtain ⟨k, hk64, rfl, hv, hbel⟩ := hrel
    by_cases hlt : k < 64
    · have hlti : (k : Int) < 64 := by omega
      have ck1 := (hbel.cell (p := ⟨gk, k, none⟩) hgk).trans (HCK.out k hlt)
      rw [kWs_get k hlt] at ck1
      have cw1 := (hbel.cell (p := ⟨gw, k, none⟩) hgw).trans (HCW.out k hlt)
      have HS : Hid (roundsS ws s (k + 1) = stepS (roundsS ws s k) (kAt k) (ws.getD k 0#32)) := rfl
      generalize roundsS ws s k = S at hv HS
      generalize kAt k = kk at ck1 HS
      generalize ws.getD k 0#32 = ww at cw1 HS
      obtain ⟨g, cap, rfl, hg, hcap, q0, q1, q2, q3, q4, q5, q6, q7⟩ := hv.shape8
      clear hv
      obtain ⟨a, b, c, d, e, f, gg, h⟩ := S
      simp only at q0 q1 q2 q3 q4 q5 q6 q7
      unfold stepS upS downS at HS
      simp only at HS
      go_wp2_with fail
      go_quiet ((go_at_call 187; exact Calls.quiet_of_drew (turned_at _ _ _ (by omega) (by omega))))
      rw [big1_ref]
      generalize big1 e = B1 at HS ⊢
      replace q0 : (World.drewN wr nq).cell? _ = _ := q0
      replace q1 : (World.drewN wr nq).cell? _ = _ := q1
      replace q2 : (World.drewN wr nq).cell? _ = _ := q2
      replace q3 : (World.drewN wr nq).cell? _ = _ := q3
      replace q4 : (World.drewN wr nq).cell? _ = _ := q4
      replace q5 : (World.drewN wr nq).cell? _ = _ := q5
      replace q6 : (World.drewN wr nq).cell? _ = _ := q6
      replace q7 : (World.drewN wr nq).cell? _ = _ := q7
      replace ck1 : (World.drewN wr nq).cell? _ = _ := ck1
      replace cw1 : (World.drewN wr nq).cell? _ = _ := cw1
      replace hbel := below_drewN hbel nq
      replace hg : g < (World.drewN wr nq).heap.size := hg
      generalize World.drewN wr nq = W3 at q0 q1 q2 q3 q4 q5 q6 q7 ck1 cw1 hbel hg ⊢
      go_wp2_with fail
      go_quiet (fail)
      rw [choice_ref']
      generalize choice e f gg = CH at HS ⊢
      replace q0 : (World.drewN W3 nq).cell? _ = _ := q0
      replace q1 : (World.drewN W3 nq).cell? _ = _ := q1
      replace q2 : (World.drewN W3 nq).cell? _ = _ := q2
      replace q3 : (World.drewN W3 nq).cell? _ = _ := q3
      replace q4 : (World.drewN W3 nq).cell? _ = _ := q4
      replace q5 : (World.drewN W3 nq).cell? _ = _ := q5
      replace q6 : (World.drewN W3 nq).cell? _ = _ := q6
      replace q7 : (World.drewN W3 nq).cell? _ = _ := q7
      replace ck1 : (World.drewN W3 nq).cell? _ = _ := ck1
      replace cw1 : (World.drewN W3 nq).cell? _ = _ := cw1
      replace hbel := below_drewN hbel nq
      replace hg : g < (World.drewN W3 nq).heap.size := hg
      generalize World.drewN W3 nq = W4 at q0 q1 q2 q3 q4 q5 q6 q7 ck1 cw1 hbel hg ⊢
      have lo_h := uw_lo h
      have hi_h := uw_hi h
      have lo_B1 := uw_lo B1
      have hi_B1 := uw_hi B1
      have lo_CH := uw_lo CH
      have hi_CH := uw_hi CH
      have lo_kk := uw_lo kk
      have hi_kk := uw_hi kk
      have lo_ww := uw_lo ww
      have hi_ww := uw_hi ww
      go_wp2_with fail
      go_quiet ((go_at_call 188; exact Calls.quiet_of_same (word_at _ (h + B1 + CH + kk + ww) (uw_sum5 _ _ _ _ _) _ (by omega) (by omega))))
      clear lo_h hi_h lo_B1 hi_B1 lo_CH hi_CH lo_kk hi_kk lo_ww hi_ww
      generalize h + B1 + CH + kk + ww = up at HS ⊢
      replace q0 : (World.drewN W4 nq).cell? _ = _ := q0
      replace q1 : (World.drewN W4 nq).cell? _ = _ := q1
      replace q2 : (World.drewN W4 nq).cell? _ = _ := q2
      replace q3 : (World.drewN W4 nq).cell? _ = _ := q3
      replace q4 : (World.drewN W4 nq).cell? _ = _ := q4
      replace q5 : (World.drewN W4 nq).cell? _ = _ := q5
      replace q6 : (World.drewN W4 nq).cell? _ = _ := q6
      replace q7 : (World.drewN W4 nq).cell? _ = _ := q7
      replace ck1 : (World.drewN W4 nq).cell? _ = _ := ck1
      replace cw1 : (World.drewN W4 nq).cell? _ = _ := cw1
      replace hbel := below_drewN hbel nq
      replace hg : g < (World.drewN W4 nq).heap.size := hg
      generalize World.drewN W4 nq = W5 at q0 q1 q2 q3 q4 q5 q6 q7 ck1 cw1 hbel hg ⊢
      clear ck1 cw1
      go_wp2_with fail
      go_quiet ((go_at_call 187; exact Calls.quiet_of_drew (turned_at _ _ _ (by omega) (by omega))))
      rw [big0_ref]
      generalize big0 a = B0 at HS ⊢
      replace q0 : (World.drewN W5 nq).cell? _ = _ := q0
      replace q1 : (World.drewN W5 nq).cell? _ = _ := q1
      replace q2 : (World.drewN W5 nq).cell? _ = _ := q2
      replace q3 : (World.drewN W5 nq).cell? _ = _ := q3
      replace q4 : (World.drewN W5 nq).cell? _ = _ := q4
      replace q5 : (World.drewN W5 nq).cell? _ = _ := q5
      replace q6 : (World.drewN W5 nq).cell? _ = _ := q6
      replace q7 : (World.drewN W5 nq).cell? _ = _ := q7
      replace hbel := below_drewN hbel nq
      replace hg : g < (World.drewN W5 nq).heap.size := hg
      generalize World.drewN W5 nq = W6 at q0 q1 q2 q3 q4 q5 q6 q7 hbel hg ⊢
      go_wp2_with fail
      go_quiet (fail)
      rw [most_ref]
      generalize most a b c = MJ at HS ⊢
      replace q0 : (World.drewN W6 nq).cell? _ = _ := q0
      replace q1 : (World.drewN W6 nq).cell? _ = _ := q1
      replace q2 : (World.drewN W6 nq).cell? _ = _ := q2
      replace q3 : (World.drewN W6 nq).cell? _ = _ := q3
      replace q4 : (World.drewN W6 nq).cell? _ = _ := q4
      replace q5 : (World.drewN W6 nq).cell? _ = _ := q5
      replace q6 : (World.drewN W6 nq).cell? _ = _ := q6
      replace q7 : (World.drewN W6 nq).cell? _ = _ := q7
      replace hbel := below_drewN hbel nq
      replace hg : g < (World.drewN W6 nq).heap.size := hg
      generalize World.drewN W6 nq = W7 at q0 q1 q2 q3 q4 q5 q6 q7 hbel hg ⊢
      have lo_up := uw_lo up
      have hi_up := uw_hi up
      have lo_B0 := uw_lo B0
      have hi_B0 := uw_hi B0
      have lo_MJ := uw_lo MJ
      have hi_MJ := uw_hi MJ
      have lo_d := uw_lo d
      have hi_d := uw_hi d
      go_wp2_with fail
      refine wp_region_quiet_tail 30 (by kernel_rfl) (by kernel_rfl) ?_
      simp only [List.take_succ_cons, List.take_zero, List.drop_succ_cons, List.drop_zero]
      repeat (go_big_quiet_step (fail))
      go_big_quiet_want
      go_big_quiet_op
      refine ⟨_, word_at _ (up + B0 + MJ) (uw_sum3 _ _ _) _ (by omega) (by omega), ?_⟩
      go_big_quiet_on
      repeat (go_big_quiet_step (fail))
      go_big_quiet_want
      go_big_quiet_op
      refine ⟨_, word_at _ (d + up) (uw_sum2 _ _) _ (by omega) (by omega), ?_⟩
      go_big_quiet_on
      repeat (go_big_quiet_step (fail))
      refine wpQuiet_nil ?_
      clear lo_up hi_up lo_B0 hi_B0 lo_MJ hi_MJ lo_d hi_d
      have hnew := new_row8 W7.drew (up + B0 + MJ) a b c (d + up) e f gg
      have hbn : Below w2.heap.size w2 (W7.drew.alloc (.cells #[.int .i64 (uw (up + B0 + MJ)), .int .i64 (uw a), .int .i64 (uw b), .int .i64 (uw c), .int .i64 (uw (d + up)), .int .i64 (uw e), .int .i64 (uw f), .int .i64 (uw gg)] 3)) := hbel.drew.alloc hbel.size _
      have HNEW : Hid _ := hnew
      have HBN : Hid _ := hbn
      clear hnew hbn q0 q1 q2 q3 q4 q5 q6 q7 hbel hg
      go_wp2
      go_roundw
      case rel =>
        refine ⟨k + 1, by omega, by go_num, ?_, HBN.out⟩
        rw [HS.out, ← BitVec.add_assoc]
        exact HNEW.out
      case measure => simp [intOf]; omega
    · have hlti : ¬ (k : Int) < 64 := by omega
      have HK : Hid (mixS s (sched l) = addS s (roundsS ws s k)) := by
        unfold Hid
        rw [HM.out, show k = 64 by omega]
        rfl
      have hd3 := hd2.below hbel
      have B3 : Below w.heap.size w wr := B2.trans (hbel.mono B2.size)
      generalize roundsS ws s k = T at hv HK
      obtain ⟨gd, cdd, rfl, hgd, hcd, hcelld⟩ := hd3.ex
      obtain ⟨gv, cvv, rfl, hgv, hcv, hcellv⟩ := hv.ex
      rw [show s.list.length = 8 from rfl] at hcd hcelld ⊢
      rw [show T.list.length = 8 from rfl] at hcv hcellv ⊢
      have HCD : Hid _ := hcelld
      have HCV : Hid _ := hcellv
      clear hcelld hcellv hd3 hd2 hv hbel B2 HCW HCK hgw hgk HM
      generalize wr = W9 at hgd hgv B3 HCD HCV ⊢
      go_wp2_with fail
      go_loopw [14, 15] (fun vo i wr => ∃ j : Nat, j ≤ 8 ∧ i = .int .i64 j ∧ wr.ownsRow W9.heap.size 3 1 vo ((addS s T).list.take j).length (((addS s T).list.take j).map iw) ∧ Below W9.heap.size W9 wr) (fun _ i _ => 8 - (intOf i).toNat)
      case atStart => exact ⟨0, by omega, rfl, World.ownsRow_nil _ _ _ _, Below.refl _ _⟩
      case round =>
        obtain ⟨j, hj8, rfl, hown, hbel⟩ := hrel
        have hml : ((addS s T).list.take j).length = j := by rw [List.length_take]; show min j 8 = j; omega
        by_cases hltj : j < 8
        · have hltji : (j : Int) < 8 := by omega
          have hj0i : (0 : Int) ≤ (j : Int) := by omega
          have cd := (hbel.cell (p := ⟨gd, j, none⟩) hgd).trans (HCD.out j hltj)
          have cv := (hbel.cell (p := ⟨gv, j, none⟩) hgv).trans (HCV.out j hltj)
          have HT : Hid _ := take_list8 s T j hltj
          generalize s.list.getD j 0#32 = x at cd HT
          generalize T.list.getD j 0#32 = y at cv HT
          generalize (addS s T).list.take j = pre at hown HT hml
          rw [hml] at hown
          have hBW := hbel.size
          have n1 : u14.ownBlock ≠ some gd := fun e => by have := (hown.lt gd e).1; omega
          have n2 : u14.ownBlock ≠ some gv := fun e => by have := (hown.lt gv e).1; omega
          have lox := uw_lo x
          have hix := uw_hi x
          have loy := uw_lo y
          have hiy := uw_hi y
          have wz1 : IntKind.i64.wrap (uw x + uw y) = uw x + uw y := by simp only [IntKind.wrap, IntKind.bits, IntKind.signed]; simp; omega
          have HNW0 := World.new_ne wr _ cd
          have HNW1 := World.new_ne wr _ cv
          go_wp2_with fail
          go_region_held3 (fun w' => w'.cell? ⟨gd, j, none⟩ = some (.int .i64 (uw x)) ∧ w'.cell? ⟨gv, j, none⟩ = some (.int .i64 (uw y)))
            (first
              | go_keep
              | (go_split_ands
                 refine ⟨?_, ?_⟩
                 · (rw [hgrow.cell_far _ (by simp; omega) (Ne.symm n1)]; assumption)
                 · (rw [hgrow.cell_far _ (by simp; omega) (Ne.symm n2)]; assumption)))
            ((first
              | (refine step_append_lies _ (by rfl) _ _ _ (by rfl) W9.heap.size 3 i0 _ 1 8 Tryz.underlying88 hi0 hz0 hz1 hz2 rfl (by omega) u14 j (pre.map iw) (by rfl) ((hown.alloc _).drew)
                  ⟨wr.heap.size, 0, none⟩ 1 1 [.int .i64 (uw (x + y))] (by rfl) (by rfl) (World.news_of_block (cs := #[.int .i64 (uw (x + y))]) (t := 3) (fr := (0, 0)) (heap_alloc_new wr _)) (by simp [Value.oneCell'])
                  (by omega) (by unfold maxLen; omega) (by omega) (by simp; omega) (wr.heap.size + 1) (by simp) ?_; intro gn cc wn hown1 hgrow hat hlt2)
              | (go_at_call 188; refine (word_at _ (x + y) (uw_sum2 _ _) _ (by omega) (by omega)).mono ?_; rintro e w' ⟨rfl, rfl⟩)))
          have bA : Below wr.heap.size wr ((wr.alloc (.cells #[.int .i64 (uw (x + y))] 3)).drew) := ((Below.refl _ _).alloc (Nat.le_refl _) _).drew
          have hb' : Below W9.heap.size W9 wn := (hbel.trans (bA.mono hBW)).grown hgrow (by have := bA.size; omega) (fun k hk => (hown.lt k hk).1)
          have ho' : wn.ownsRow W9.heap.size 3 1 (.slice (some ⟨gn, 0, none⟩) (j + 1) cc) (pre ++ [x + y]).length ((pre ++ [x + y]).map iw) := by simpa [hml, iw] using hown1
          clear hown1 hgrow hat hlt2 hown hbel HNW0 HNW1 wz1 cd cv
          go_wp2
          go_roundw
          case rel => exact ⟨j + 1, by omega, by go_num, by rw [HT.out]; exact ho', hb'⟩
          case measure => simp [intOf]; omega
        · have hltji : ¬ (j : Int) < 8 := by omega
          have HJ : Hid ((addS s T).list.take j = (addS s T).list) := by unfold Hid; exact List.take_of_length_le (by show 8 ≤ j; omega)
          rw [HJ.out] at hown
          have hwl := Wl.ofOwns hown (by show 0 < 8; omega)
          go_wp2
          go_ret
          refine ⟨_, rfl, ?_, B3.trans (hbel.mono B3.size)⟩
          rw [HK.out]
          exact hwl
end Go.Proofs.YtakgfdbjgeopdaaGreatDoor
