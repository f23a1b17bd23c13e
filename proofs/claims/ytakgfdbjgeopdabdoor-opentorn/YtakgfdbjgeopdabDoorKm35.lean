/-
  The walk of the bytes of a record that is taken.
-/
import Derived.Test.YtakgfdbjgeopdabDoorKm32
import Derived.Test.YtakgfdbjgeopdabDoorKm34
namespace Go.Proofs.YtakgfdbjgeopdabDoor
open Go.RowKit
set_option linter.unusedVariables false

/-- what taking hands out -/
def TakeR (w' : World) (v' : Value) (n' : Int) (key : List Int) (s t : Int) (l : List Bool) (r : List Int) : Prop := takeE key s t l r = 0 → n' = numL (r.take 4) ∧ Sl w' v' (takeL key r)
theorem TakeR.no {w' : World} {v' : Value} {n' : Int} {key : List Int} {s t : Int} {l : List Bool} {r : List Int} {E : Int} (h : takeE key s t l r = E) (hE : E ≠ 0) : TakeR w' v' n' key s t l r := fun h0 => absurd (h.symm.trans h0) hE

set_option maxHeartbeats 4000000 in
set_option maxRecDepth 100000 in
theorem taken_any (vk : Value) (key : List Int) (s t : Int) (l : List Bool) (vr : Value) (r : List Int) (w : World) (hk : Sl w vk key) (hl : l.length = 8) (hr : Sl w vr r) (ht : QTab w) :
    Calls Tryd.prog 64 #[.agg (chA vk s t l), vr] w fun e w' => ∃ v', ∃ n', e = .returned (.tuple #[v', .int .i64 n', .int .i64 (takeE key s t l r)]) ∧ TakeR w' v' n' key s t l r ∧ Below w.heap.size w w' := by
  have hpos := ht.pos
  have bx := Bx.new w vk s t l
  obtain ⟨ar, cr, rfl⟩ := hr.shape
  have hrl := hr.len
  have hi := chInfo (k := vk) (s := s) (t := t) hl
  by_cases hok : OkC key s t l
  · have HC : Hid (checkE key s t l = 0) := checkE_ok hok
    go_enter Tryd.func64, Tryd.ntmps64
    go_wp2_with (refine wpList_load_row rfl 47 _ rfl w.heap.size rfl 47 _ (0, 0) _ bx.row Tryd.underlying47 rfl hi ?_)
    refine (check_any vk key s t l _ (hk.below bx.bel) hl).mono ?_
    rintro e w1 ⟨rfl, b1⟩
    replace bx := bx.step b1
    rw [HC.out]
    clear b1
    by_cases h2 : 2020 < r.length
    · have HE : Hid (takeE key s t l r = 1) := by unfold Hid takeE; rw [if_neg (fun h => h hok), if_pos h2]
      have h2' : (2020 : Int) < (r.length : Int) := by omega
      go_wp2
      go_ret3
      exact ⟨.slice none 0 0, 0, by rw [HE.out]; rfl, TakeR.no HE.out (by decide), bx.bel⟩
    · have h2' : ¬ (2020 : Int) < (r.length : Int) := by omega
      by_cases h3 : r.length < 20
      · have HE : Hid (takeE key s t l r = 13) := by unfold Hid takeE; rw [if_neg (fun h => h hok), if_neg h2, if_pos h3]
        have h3' : (r.length : Int) < 20 := by omega
        go_wp2
        go_ret3
        exact ⟨.slice none 0 0, 0, by rw [HE.out]; rfl, TakeR.no HE.out (by decide), bx.bel⟩
      · have h3' : ¬ (r.length : Int) < 20 := by omega
        go_wp2_with fail
        refine (cut_any _ r w1 (hr.below bx.bel) (by omega)).mono ?_
        rintro e w2 ⟨vh, vd, rfl, sh, sd, b2⟩
        replace bx := bx.step b2
        have hhl : (r.take 4).length = 4 := by rw [List.length_take]; omega
        have hdl : (r.drop 4).length = r.length - 4 := by rw [List.length_drop]
        obtain ⟨H, hH⟩ : ∃ H, r.take 4 = H := ⟨_, rfl⟩
        obtain ⟨D, hD⟩ : ∃ D, r.drop 4 = D := ⟨_, rfl⟩
        have HH : Hid (r.take 4 = H) := hH
        have HD : Hid (r.drop 4 = D) := hD
        rw [hH] at sh hhl
        rw [hD] at sd hdl
        have nr := numL_range hhl sh.byte
        have HT : Hid (takeE key s t l r = if 1073741824 ≤ numL H then 2 else if oldB t l (numL H) = true then 7 else openE key (nonceL H) H D) := by
          unfold Hid takeE
          rw [if_neg (fun h => h hok), if_neg h2, if_neg h3, hH, hD]
        have HTL : Hid (takeL key r = openL key (nonceL H) H D) := by unfold Hid takeL; rw [hH, hD]
        clear hH hD b2
        go_wp2_with fail
        refine (numberOf_any vh H w2 sh hhl).mono ?_
        rintro e w2' ⟨rfl, rfl⟩
        generalize hN : numL H = N at HT nr
        have HN : Hid (numL H = N) := hN
        clear hN
        by_cases h4 : 1073741824 ≤ N
        · have HE : Hid (takeE key s t l r = 2) := by unfold Hid; rw [HT.out, if_pos h4]
          go_wp2
          go_ret3
          exact ⟨.slice none 0 0, 0, by rw [HE.out]; rfl, TakeR.no HE.out (by decide), bx.bel⟩
        · go_wp2_with (refine wpList_load_row rfl 47 _ rfl w.heap.size rfl 47 _ (0, 0) _ bx.row Tryd.underlying47 rfl hi ?_)
          refine (windowOf_any vk s t l w2' hl).mono ?_
          rintro e w3 ⟨rfl, b3⟩
          replace bx := bx.step b3
          replace sh := sh.below b3
          replace sd := sd.below b3
          have n0 := nr.1
          have n1 : N < 1073741824 := by omega
          clear b3
          go_wp2_with fail
          refine (isOld_any t N l w3 hl hok.t0 hok.t1 n0 n1).mono ?_
          rintro e w4 ⟨rfl, b4⟩
          replace bx := bx.step b4
          replace sh := sh.below b4
          replace sd := sd.below b4
          clear b4
          cases h5 : oldB t l N with
          | true =>
            have HE : Hid (takeE key s t l r = 7) := by unfold Hid; rw [HT.out, if_neg (show ¬ 1073741824 ≤ N by omega), h5, if_pos rfl]
            clear h5
            go_wp2
            go_ret3
            exact ⟨.slice none 0 0, 0, by rw [HE.out]; rfl, TakeR.no HE.out (by decide), bx.bel⟩
          | false =>
            have HE : Hid (takeE key s t l r = openE key (nonceL H) H D) := by unfold Hid; rw [HT.out, if_neg (show ¬ 1073741824 ≤ N by omega), h5, if_neg (by simp)]
            have hk2 := hk.below bx.bel
            have ht2 := ht.below hpos bx.bel
            have hpos2 : 2 < w4.heap.size := by have := bx.lt; omega
            have c0 := bx.c0
            have bel2 := bx.bel
            have hd : Below w4.heap.size w4 w4.drew := (Below.refl _ _).drew
            have hzz : w.heap.size < w4.drew.heap.size := bx.lt
            clear h5 hk hr ht hok
            go_wp2_with fail
            go_region_with (first
              | (go_at_call 48; refine (nonceOf_any _ H _ (sh.below hd) hhl).mono ?_; rintro e w5 ⟨vn, rfl, sn, b5⟩; have c5 := (b5.cell (p := ⟨w.heap.size, 0, none⟩) hzz).trans c0)
              | (go_at_call 77; refine (open_any vk vn _ _ key (nonceL H) H D _ ((hk2.below hd).below b5) sn ((sh.below hd).below b5) ((sd.below hd).below b5) ((ht2.below hpos2 hd).below hpos2 b5)).mono ?_; rintro e w6 ⟨vx, rfl, sx, b6⟩))
            all_goals
              have d5 : Below w.heap.size w w5 := bel2.trans ((hd.trans b5).mono bel2.size)
              have d6 : Below w.heap.size w w6 := d5.trans (b6.mono d5.size)
              clear bx sh sd hk2 ht2 hd c0 c5 sn b5 b6 hzz bel2
              generalize openE key (nonceL H) H D = E at HE
              generalize openL key (nonceL H) H D = X at HTL sx
              go_wp2
              go_ret3
              exact ⟨vx, N, by rw [HE.out]; rfl, fun _ => ⟨by rw [HH.out, HN.out], by rw [HTL.out]; exact sx⟩, d6⟩
  · have HC : Hid (checkE key s t l = 5) := checkE_no hok
    have HE : Hid (takeE key s t l r = 5) := if_pos hok
    go_enter Tryd.func64, Tryd.ntmps64
    go_wp2_with (refine wpList_load_row rfl 47 _ rfl w.heap.size rfl 47 _ (0, 0) _ bx.row Tryd.underlying47 rfl hi ?_)
    refine (check_any vk key s t l _ (hk.below bx.bel) hl).mono ?_
    rintro e w1 ⟨rfl, b1⟩
    replace bx := bx.step b1
    rw [HC.out]
    go_wp2
    go_ret3
    exact ⟨.slice none 0 0, 0, by rw [HE.out]; rfl, TakeR.no HE.out (by decide), bx.bel⟩
end Go.Proofs.YtakgfdbjgeopdabDoor
