/-
  The walk of Take.
-/
import Derived.BigQuiet
import Derived.Test.YtakgfdbjgeopdaaGreatDoorKp23
import Derived.Test.YtakgfdbjgeopdaaGreatDoorKp22
import Derived.Test.YtakgfdbjgeopdaaGreatDoorKp15
import Derived.Test.YtakgfdbjgeopdaaGreatDoorKp19
import Derived.Test.YtakgfdbjgeopdaaGreatDoorKp2
import Derived.Test.YtakgfdbjgeopdaaGreatDoorKp1
namespace Go.Proofs.YtakgfdbjgeopdaaGreatDoor
open Go.RowKit
set_option linter.unusedVariables false

theorem takeE_ok {key : List Int} {s t : Int} {l : List Bool} {r : List Int} (h : takeE key s t l r = 0) : OkC key s t l ∧ 20 ≤ r.length ∧ r.length ≤ 2020 ∧ numL (r.take 4) < 1073741824 ∧ oldB t l (numL (r.take 4)) = false ∧ openE key (nonceL (r.take 4)) (r.take 4) (r.drop 4) = 0 := by
  unfold takeE at h
  by_cases h1 : OkC key s t l
  · rw [if_neg (fun h => h h1)] at h
    by_cases h2 : 2020 < r.length
    · rw [if_pos h2] at h; omega
    · rw [if_neg h2] at h
      by_cases h3 : r.length < 20
      · rw [if_pos h3] at h; omega
      · rw [if_neg h3] at h
        by_cases h4 : 1073741824 ≤ numL (r.take 4)
        · rw [if_pos h4] at h; omega
        · rw [if_neg h4] at h
          cases h5 : oldB t l (numL (r.take 4)) with
          | true => rw [h5, if_pos rfl] at h; omega
          | false =>
            rw [h5, if_neg (by simp)] at h
            exact ⟨h1, by omega, by omega, by omega, rfl, h⟩
  · rw [if_pos h1] at h; omega
theorem takeE_of {key : List Int} {s t : Int} {l : List Bool} {r : List Int} (h1 : OkC key s t l) (h2 : r.length ≤ 2020) (h3 : 20 ≤ r.length) (h4 : numL (r.take 4) < 1073741824) (h5 : oldB t l (numL (r.take 4)) = false) : takeE key s t l r = openE key (nonceL (r.take 4)) (r.take 4) (r.drop 4) := by
  unfold takeE
  rw [if_neg (fun h => h h1), if_neg (by omega), if_neg (by omega), if_neg (by omega), h5, if_neg (by simp)]
theorem takeE_old {key : List Int} {s t : Int} {l : List Bool} {r : List Int} (h1 : OkC key s t l) (h2 : r.length ≤ 2020) (h3 : 20 ≤ r.length) (h4 : numL (r.take 4) < 1073741824) (h5 : oldB t l (numL (r.take 4)) = true) : takeE key s t l r = 7 := by
  unfold takeE
  rw [if_neg (fun h => h h1), if_neg (by omega), if_neg (by omega), if_neg (by omega), h5, if_pos rfl]

set_option maxHeartbeats 2000000 in
set_option maxRecDepth 100000 in
theorem take_no (vk : Value) (key : List Int) (s t : Int) (l : List Bool) (vr : Value) (r : List Int) (w : World) (hk : Sl w vk key) (hl : l.length = 8) (hr : Sl w vr r) (ht : QTab w) (E : Int) (hE : takeE key s t l r = E) (hE0 : E ≠ 0) :
    Calls Tryz.prog 96 #[.agg (chA vk s t l), vr] w fun e w' => e = .returned (.tuple #[.agg (chA (.slice none 0 0) 0 0 noB), .slice none 0 0, .int .i64 E]) ∧ Below w.heap.size w w' := by
  have hpos := ht.pos
  have bx := By.new w vk s t l
  have hi := chInfo (k := vk) (s := s) (t := t) hl
  have HE : Hid (takeE key s t l r = E) := hE
  clear hE
  go_enter Tryz.func96, Tryz.ntmps96
  go_wp2_with (refine wpList_load_row rfl 55 _ rfl w.heap.size rfl 55 _ (0, 0) _ bx.row Tryz.underlying55 rfl hi ?_)
  refine (taken_any _ key s t l vr r _ (hk.below bx.bel) hl (hr.below bx.bel) (ht.below hpos bx.bel)).mono ?_
  rintro e w1 ⟨v2, n2, rfl, s2, b1⟩
  rw [HE.out]
  replace bx := bx.step b1
  clear b1
  have hi4 := chInfo (k := .slice none 0 0) (s := 0) (t := 0) noB_length
  have ho4 := chA_one (Sl.nil w none) 0 0 noB
  go_wp2_with (refine wpList_store_row rfl 55 _ _ rfl (w.heap.size + 1) (chA (.slice none 0 0) 0 0 noB) rfl rfl 55 _ bx.res hi4 rfl ho4 ?_)
  have r2 := setRow_heap w1 (w.heap.size + 1) _ (chA (.slice none 0 0) 0 0 noB) 55 _ bx.res
  exact bodyPost_ret (results_row3 rfl _ _ (w.heap.size + 1) 55 _ (0, 0) _ rfl r2 Tryz.underlying55 rfl hi4) rfl ⟨rfl, below_setRow bx.bel (by omega) _⟩

theorem chA_setSeen (k : Value) (s t : Int) (l : List Bool) (i : Nat) (x : Bool) : (chA k s t l).setIfInBounds (3 + i) (.bool x) = chA k s t (l.set i x) := by
  apply Array.ext'
  rw [Nat.add_comm]
  simp [chA, List.map_set]
theorem By.top {w W : World} {k : Value} {s t : Int} {l : List Bool} (h : By w W k s t l) (t' : Int) : By w (W.setCell ⟨w.heap.size, 2, none⟩ (.int .i64 t')) k s t' l :=
  ⟨by rw [heap_setCell_same _ _ _ _ _ _ h.row, chA_setTop], (heap_setCell_other _ _ _ _ (by simp)).trans h.res, h.bel.setCell (p := ⟨w.heap.size, 2, none⟩) (by simp) _⟩
theorem By.seen {w W : World} {k : Value} {s t : Int} {l : List Bool} (h : By w W k s t l) (i o : Nat) (ho : o = 3 + i) (x : Bool) (l' : List Bool) (hl' : l.set i x = l') : By w (W.setCell ⟨w.heap.size, o, none⟩ (.bool x)) k s t l' := by
  subst ho
  subst hl'
  exact ⟨by rw [heap_setCell_same _ _ _ _ _ _ h.row, chA_setSeen], (heap_setCell_other _ _ _ _ (by simp)).trans h.res, h.bel.setCell (p := ⟨w.heap.size, 3 + i, none⟩) (by simp) _⟩
theorem By.drew {w W : World} {k : Value} {s t : Int} {l : List Bool} (h : By w W k s t l) : By w W.drew k s t l := ⟨h.row, h.res, h.bel.drew⟩
/-- the whole window is laid into the box -/
theorem By.laid {w W : World} {a : Option Addr} {n c : Nat} {s t : Int} {x0 x1 x2 x3 x4 x5 x6 x7 : Bool} (h : By w W (.slice a n c) s t [x0, x1, x2, x3, x4, x5, x6, x7]) (T : Int) (b0 b1 b2 b3 b4 b5 b6 b7 : Bool) :
    By w (((((((((W.setCell ⟨w.heap.size, 2, none⟩ (.int .i64 T)).setCell ⟨w.heap.size, 3, none⟩ (.bool b0)).setCell ⟨w.heap.size, 4, none⟩ (.bool b1)).setCell ⟨w.heap.size, 5, none⟩ (.bool b2)).setCell ⟨w.heap.size, 6, none⟩ (.bool b3)).setCell ⟨w.heap.size, 7, none⟩ (.bool b4)).setCell ⟨w.heap.size, 8, none⟩ (.bool b5)).setCell ⟨w.heap.size, 9, none⟩ (.bool b6)).setCell ⟨w.heap.size, 10, none⟩ (.bool b7)).drew (.slice a n c) s T [b0, b1, b2, b3, b4, b5, b6, b7] ∧ (∀ v n xs, W.ownsRow 0 5 1 v n xs → (((((((((W.setCell ⟨w.heap.size, 2, none⟩ (.int .i64 T)).setCell ⟨w.heap.size, 3, none⟩ (.bool b0)).setCell ⟨w.heap.size, 4, none⟩ (.bool b1)).setCell ⟨w.heap.size, 5, none⟩ (.bool b2)).setCell ⟨w.heap.size, 6, none⟩ (.bool b3)).setCell ⟨w.heap.size, 7, none⟩ (.bool b4)).setCell ⟨w.heap.size, 8, none⟩ (.bool b5)).setCell ⟨w.heap.size, 9, none⟩ (.bool b6)).setCell ⟨w.heap.size, 10, none⟩ (.bool b7)).drew.ownsRow 0 5 1 v n xs) ∧ ∀ v p, Sl W v p → Sl (((((((((W.setCell ⟨w.heap.size, 2, none⟩ (.int .i64 T)).setCell ⟨w.heap.size, 3, none⟩ (.bool b0)).setCell ⟨w.heap.size, 4, none⟩ (.bool b1)).setCell ⟨w.heap.size, 5, none⟩ (.bool b2)).setCell ⟨w.heap.size, 6, none⟩ (.bool b3)).setCell ⟨w.heap.size, 7, none⟩ (.bool b4)).setCell ⟨w.heap.size, 8, none⟩ (.bool b5)).setCell ⟨w.heap.size, 9, none⟩ (.bool b6)).setCell ⟨w.heap.size, 10, none⟩ (.bool b7)).drew v p := by
  have h0 := h.top T
  have h1 := h0.seen 0 3 rfl b0 [b0, x1, x2, x3, x4, x5, x6, x7] rfl
  have h2 := h1.seen 1 4 rfl b1 [b0, b1, x2, x3, x4, x5, x6, x7] rfl
  have h3 := h2.seen 2 5 rfl b2 [b0, b1, b2, x3, x4, x5, x6, x7] rfl
  have h4 := h3.seen 3 6 rfl b3 [b0, b1, b2, b3, x4, x5, x6, x7] rfl
  have h5 := h4.seen 4 7 rfl b4 [b0, b1, b2, b3, b4, x5, x6, x7] rfl
  have h6 := h5.seen 5 8 rfl b5 [b0, b1, b2, b3, b4, b5, x6, x7] rfl
  have h7 := h6.seen 6 9 rfl b6 [b0, b1, b2, b3, b4, b5, b6, x7] rfl
  have h8 := h7.seen 7 10 rfl b7 [b0, b1, b2, b3, b4, b5, b6, b7] rfl
  refine ⟨h8.drew, fun v n xs ho => ?_, fun v p hs => ?_⟩
  · exact (own_setBox (own_setBox (own_setBox (own_setBox (own_setBox (own_setBox (own_setBox (own_setBox (own_setBox ho h.row (by decide) 2 _) h0.row (by decide) 3 _) h1.row (by decide) 4 _) h2.row (by decide) 5 _) h3.row (by decide) 6 _) h4.row (by decide) 7 _) h5.row (by decide) 8 _) h6.row (by decide) 9 _) h7.row (by decide) 10 _).drew
  exact (((((((((hs.setBox h.row 2 _).setBox h0.row 3 _).setBox h1.row 4 _).setBox h2.row 5 _).setBox h3.row 6 _).setBox h4.row 7 _).setBox h5.row 8 _).setBox h6.row 9 _).setBox h7.row 10 _).drew

set_option maxHeartbeats 2000000 in
set_option maxRecDepth 100000 in
theorem take_ok (vk : Value) (key : List Int) (s t : Int) (l : List Bool) (vr : Value) (r : List Int) (w : World) (hk : Sl w vk key) (hl : l.length = 8) (hr : Sl w vr r) (ht : QTab w) (hE : takeE key s t l r = 0) (n : Int) (hn : numL (r.take 4) = n) :
    Calls Tryz.prog 96 #[.agg (chA vk s t l), vr] w fun e w' => ∃ v1, ∃ v2, e = .returned (.tuple #[.agg (chA v1 s (takT t n) (takS t l n)), v2, .int .i64 0]) ∧ Sl w' v1 key ∧ w'.ownsRow 0 5 1 v1 key.length (key.map (Value.int .u8)) ∧ Sl w' v2 (takeL key r) ∧ Below w.heap.size w w' := by
  have hpos := ht.pos
  have bx := By.new w vk s t l
  have hi := chInfo (k := vk) (s := s) (t := t) hl
  obtain ⟨hok, hr20, hr2020, hn1, hold, hop⟩ := takeE_ok hE
  rw [hn] at hn1 hold
  have hn0 : 0 ≤ n := by
    rw [← hn]
    exact (numL_range (by rw [List.length_take]; omega) (fun x hx => hr.byte x (List.mem_of_mem_take hx))).1
  have hn8 : t - 8 ≤ n := by
    by_cases h : n < t - 8
    · rw [oldB_low h] at hold; cases hold
    · omega
  have t0 := hok.t0
  have t1 := hok.t1
  have HE : Hid (takeE key s t l r = 0) := hE
  have HN : Hid (numL (r.take 4) = n) := hn
  obtain ⟨ak, ck, rfl⟩ := hk.shape
  generalize hnk : key.length = nk at hk hi bx ⊢
  have HNK : Hid (key.length = nk) := hnk
  clear hnk
  go_enter Tryz.func96, Tryz.ntmps96
  clear hE hok hn hold hop hr20 hr2020
  go_wp2_with (refine wpList_load_row rfl 55 _ rfl w.heap.size rfl 55 _ (0, 0) _ bx.row Tryz.underlying55 rfl hi ?_)
  refine (taken_any _ key s t l vr r _ (hk.below bx.bel) hl (hr.below bx.bel) (ht.below hpos bx.bel)).mono ?_
  rintro e w1 ⟨v2, n2, rfl, s2', b1⟩
  rw [HE.out]
  obtain ⟨hn2, s2⟩ := s2' HE.out
  rw [HN.out] at hn2
  subst hn2
  replace bx := bx.step b1
  clear b1 s2'
  go_wp2_with (refine wpList_load_row rfl 55 _ rfl w.heap.size rfl 55 _ (0, 0) _ bx.row Tryz.underlying55 rfl hi ?_)
  refine (windowOf_any _ s t l w1 hl).mono ?_
  rintro e w2 ⟨rfl, b2⟩
  replace bx := bx.step b2
  replace s2 := s2.below b2
  clear b2
  go_wp2_with fail
  refine (with_any t n2 l w2 hl t0 t1 hn8 hn0 hn1).mono ?_
  rintro e w3 ⟨rfl, b3⟩
  replace bx := bx.step b3
  replace s2 := s2.below b3
  clear b3
  have hSl := takS_length t l n2
  generalize hT : takT t n2 = T
  generalize hS : takS t l n2 = S at hSl
  have HT : Hid (takT t n2 = T) := hT
  have HS : Hid (takS t l n2 = S) := hS
  clear hT hS
  obtain ⟨b0, b1, b2, b3, b4, b5, b6, b7, rfl⟩ := eight S hSl
  simp only [wA, List.map]
  go_upto_region 5 with fail
  have g0 : (w3.alloc (.cells (wA T [b0, b1, b2, b3, b4, b5, b6, b7]) 190)).heap[w3.heap.size]? = some (.cells (wA T [b0, b1, b2, b3, b4, b5, b6, b7]) 190 (0, 0)) := heap_alloc_new _ _
  have b4' : Below w3.heap.size w3 (w3.alloc (.cells (wA T [b0, b1, b2, b3, b4, b5, b6, b7]) 190)) := (Below.refl _ _).alloc (Nat.le_refl _) _
  simp only [wA, List.map] at g0 b4'
  have hG := bx.lt
  replace bx := bx.step b4'
  replace s2 := s2.below b4'
  generalize w3.alloc (.cells #[.int .i64 T, .bool b0, .bool b1, .bool b2, .bool b3, .bool b4, .bool b5, .bool b6, .bool b7] 190) = w4 at g0 b4' bx s2 ⊢
  clear b4'
  generalize w3.heap.size = G at g0 hG ⊢
  have c0 := bx.c0
  have hGz : G < w4.heap.size := (Array.getElem?_eq_some_iff.1 g0).1
  go_wp2_with fail
  refine (clone_any _ key w4 (hk.below bx.bel)).mono ?_
  rintro e w5 ⟨v1, rfl, o1, b5'⟩
  replace bx := bx.step b5'
  replace s2 := s2.below b5'
  replace g0 := (b5'.block G hGz).trans g0
  have sk := Sl.ofOwns o1 hk.len hk.byte
  replace o1 := owns_lower o1 (Nat.zero_le _)
  clear b5' c0 hGz
  obtain ⟨a1, c1, hv1⟩ := sk.shape
  generalize hn1 : key.length = n1 at hv1 o1
  have HKN : Hid (key.length = n1) := hn1
  clear hn1
  subst hv1
  have c0 := bx.c0
  have f0 := bx.fr 0
  go_upto_region 6 with fail
  replace s2 := s2.setBox bx.row 0 (.slice a1 n1 c1)
  replace sk := sk.setBox bx.row 0 (.slice a1 n1 c1)
  replace o1 := own_setBox o1 bx.row (by decide) 0 (.slice a1 n1 c1)
  have g1 : (w5.setCell ⟨w.heap.size, 0, none⟩ (.slice a1 n1 c1)).heap[G]? = some (.cells (wA T [b0, b1, b2, b3, b4, b5, b6, b7]) 190 (0, 0)) := (heap_setCell_other _ _ _ _ (by simp; omega)).trans g0
  replace bx := bx.key (.slice a1 n1 c1)
  generalize w5.setCell ⟨w.heap.size, 0, none⟩ (.slice a1 n1 c1) = w6 at s2 sk o1 bx g1 ⊢
  clear c0 f0 g0
  have e1 : Below w6.heap.size w6 w6.drew := (Below.refl _ _).drew
  obtain ⟨x0, x1, x2, x3, x4, x5, x6, x7, rfl⟩ := eight l hl
  obtain ⟨c0, c1', c2, c3, c4, c5, c6, c7, c8, c9, c10⟩ := chA_cells bx.row
  obtain ⟨e0, e1', e2, e3, e4, e5, e6, e7, e8⟩ := wA_cells g1
  have f2 := bx.fr 2
  have f3 := bx.fr 3
  have f4 := bx.fr 4
  have f5 := bx.fr 5
  have f6 := bx.fr 6
  have f7 := bx.fr 7
  have f8 := bx.fr 8
  have f9 := bx.fr 9
  have f10 := bx.fr 10
  have hne : ¬ G = w.heap.size := by omega
  have hne' : ¬ w.heap.size = G := by omega
  go_region
  obtain ⟨by2, hO2, hS2⟩ := bx.laid T b0 b1 b2 b3 b4 b5 b6 b7
  replace s2 := hS2 _ _ s2
  replace sk := hS2 _ _ sk
  replace o1 := hO2 _ _ _ o1
  clear hS2 hO2 c0 c1' c2 c3 c4 c5 c6 c7 c8 c9 c10 e0 e1' e2 e3 e4 e5 e6 e7 e8 f2 f3 f4 f5 f6 f7 f8 f9 f10 bx g1 e1
  generalize (((((((((w6.setCell ⟨w.heap.size, 2, none⟩ (.int .i64 T)).setCell ⟨w.heap.size, 3, none⟩ (.bool b0)).setCell ⟨w.heap.size, 4, none⟩ (.bool b1)).setCell ⟨w.heap.size, 5, none⟩ (.bool b2)).setCell ⟨w.heap.size, 6, none⟩ (.bool b3)).setCell ⟨w.heap.size, 7, none⟩ (.bool b4)).setCell ⟨w.heap.size, 8, none⟩ (.bool b5)).setCell ⟨w.heap.size, 9, none⟩ (.bool b6)).setCell ⟨w.heap.size, 10, none⟩ (.bool b7)).drew = w7 at by2 s2 sk o1 ⊢
  have hi4 := chInfo (k := .slice a1 n1 c1) (s := s) (t := T) hSl
  have ho4 := chA_one sk s T [b0, b1, b2, b3, b4, b5, b6, b7]
  have hold : (chA (.slice none 0 0) 0 0 noB).size = (chA (.slice a1 n1 c1) s T [b0, b1, b2, b3, b4, b5, b6, b7]).size := rfl
  go_wp2_with (first
    | (refine wpList_load_row rfl 55 _ rfl w.heap.size rfl 55 _ (0, 0) _ by2.row Tryz.underlying55 rfl hi4 ?_)
    | (refine wpList_store_row rfl 55 _ _ rfl (w.heap.size + 1) _ rfl rfl 55 _ by2.res hi4 hold ho4 ?_))
  have r2 := setRow_heap w7 (w.heap.size + 1) _ (chA (.slice a1 n1 c1) s T [b0, b1, b2, b3, b4, b5, b6, b7]) 55 _ by2.res
  exact bodyPost_ret (results_row3 rfl _ _ (w.heap.size + 1) 55 _ (0, 0) _ rfl r2 Tryz.underlying55 rfl hi4) rfl ⟨.slice a1 n1 c1, v2, by rw [HT.out, HS.out]; rfl, sk.setRowBox by2.res _, by rw [← HNK.out, HKN.out]; exact own_setRowBox o1 by2.res (by decide) _, s2.setRowBox by2.res _, below_setRow by2.bel (by omega) _⟩
end Go.Proofs.YtakgfdbjgeopdaaGreatDoor
/-
  New channels, and their cells.
-/
namespace Go.Proofs.YtakgfdbjgeopdaaGreatDoor
open Go.RowKit
set_option linter.unusedVariables false

theorem chA_lit (k : Value) (s t : Int) (b0 b1 b2 b3 b4 b5 b6 b7 : Bool) : chA k s t [b0, b1, b2, b3, b4, b5, b6, b7] = #[k, .int .i64 s, .int .i64 t, .bool b0, .bool b1, .bool b2, .bool b3, .bool b4, .bool b5, .bool b6, .bool b7] := rfl
theorem chA_noB (k : Value) (s t : Int) : chA k s t noB = #[k, .int .i64 s, .int .i64 t, .bool false, .bool false, .bool false, .bool false, .bool false, .bool false, .bool false, .bool false] := rfl

/-- what New makes of a key that is long enough -/
theorem new_ok (vk : Value) (key : List Int) (w : World) (hk : Sl w vk key) (h32 : key.length = 32) :
    Calls Tryz.prog 95 #[vk] w fun e w' => ∃ v', e = .returned (.tuple #[.agg (chA v' 0 0 noB), .int .i64 0]) ∧ Sl w' v' key ∧ w'.ownsRow 0 5 1 v' key.length (key.map (Value.int .u8)) ∧ Below w.heap.size w w' := by
  refine (new_any vk key w hk).mono ?_
  rintro e w1 ⟨v', rfl, s1, b1⟩
  rw [if_pos h32] at s1 ⊢
  exact ⟨v', rfl, Sl.ofOwns s1 hk.len hk.byte, s1, b1⟩
end Go.Proofs.YtakgfdbjgeopdaaGreatDoor
/-
  The walk of moot.Issuer.
-/
namespace Go.Proofs.YtakgfdbjgeopdaaGreatDoor
open Go.RowKit
set_option maxRecDepth 100000

theorem issuer_any (w : World) (ht : TabAt w) :
    Calls Tryz.prog 17 #[] w fun e w' => ∃ v', e = .returned v' ∧ w'.ownsRow w.heap.size 5 1 v' issL.length (issL.map (Value.int .u8)) ∧ Below w.heap.size w w' := by
  have kc := Go.Joins.run_convert_bytes_const_at (P := Tryz.prog) (w.alloc (.cells #[.int .u8 255] 5)) 26 5 #[.int .u8 105, .int .u8 115, .int .u8 115, .int .u8 117, .int .u8 101, .int .u8 114] 6 6 (w.heap.size + 1) (by simp) Tryz.underlying26 Tryz.underlying5
  go_enter Tryz.func17, Tryz.ntmps17
  go_wp2_with fail
  have s0 : Sl (w.alloc (.cells #[.int .u8 255] 5)) (.slice (some ⟨w.heap.size, 0, none⟩) 1 1) [255] := Sl.one w 255 5 rfl ⟨by omega, by omega⟩
  have b0 : Below w.heap.size w (w.alloc (.cells #[.int .u8 255] 5)) := (Below.refl _ _).alloc (Nat.le_refl _) _
  have s1 := Sl.sixM (w.alloc (.cells #[.int .u8 255] 5)) [105, 115, 115, 117, 101, 114] 5 (6, 7) (g := w.heap.size + 1) (by simp) rfl (by simp)
  have b1 : Below w.heap.size w ((w.alloc (.cells #[.int .u8 255] 5)).alloc (.cells #[.int .u8 105, .int .u8 115, .int .u8 115, .int .u8 117, .int .u8 101, .int .u8 114] 5 (6, 7))) := b0.alloc (by simp) _
  have s0' := s0.below ((Below.refl (w.alloc (.cells #[.int .u8 255] 5)).heap.size _).alloc (Nat.le_refl _) (.cells #[.int .u8 105, .int .u8 115, .int .u8 115, .int .u8 117, .int .u8 101, .int .u8 114] 5 (6, 7)))
  refine (Draw_ok _ _ _ [255] [105, 115, 115, 117, 101, 114] [] 32 _ s0' s1 (Sl.nil _ _) (by simp) (by simp) (by simp) (by omega) (ht.below b1)).mono ?_
  rintro e w1 ⟨v1, rfl, o1, b2⟩
  go_wp2
  go_ret
  exact ⟨v1, rfl, owns_lower o1 b1.size, b1.trans (b2.mono b1.size)⟩
end Go.Proofs.YtakgfdbjgeopdaaGreatDoor
/-
  The walk of Allows.
-/
namespace Go.Proofs.YtakgfdbjgeopdaaGreatDoor
open Go.RowKit
set_option linter.unusedVariables false

/-- the right that a kind needs -/
def needR (k : Nat) : Int := if k = 1 then 2 else if k = 2 then 1 else if k = 3 then 4 else 0
theorem NTab.right {w : World} (h : NTab w) (k : Nat) (h1 : k ≤ 3) : w.cell? ⟨0, k * 3, none⟩ = some (.int .i64 (needR k)) := by
  rcases (by omega : k = 0 ∨ k = 1 ∨ k = 2 ∨ k = 3) with rfl | rfl | rfl | rfl
  · exact h.cell 0 (by omega)
  · exact h.cell 3 (by omega)
  · exact h.cell 6 (by omega)
  · exact h.cell 9 (by omega)
/-- a set of rights has what is needed, by their bits -/
theorem hasR_bits (k : Nat) (r : Int) (hk : k ≤ 3) (h0 : 0 ≤ r) (h1 : r ≤ 7) : (bits .and .i64 r (needR k) = 0) ↔ ¬ HasR (k : Int) r := by
  have all : ∀ (i : Fin 4) (j : Fin 8), (bits .and .i64 ((j.val : Nat) : Int) (needR i.val) = 0) ↔ ¬ HasR ((i.val : Nat) : Int) ((j.val : Nat) : Int) := by decide +kernel
  obtain ⟨m, rfl⟩ := Int.eq_ofNat_of_zero_le h0
  exact all ⟨k, by omega⟩ ⟨m, by omega⟩

set_option maxHeartbeats 1000000 in
set_option maxRecDepth 100000 in
theorem allows_any (tc tr tu k c s n v now : Int) (w : World) (ht : NTab w) :
    Calls Tryz.prog 30 #[.agg (tkA tc tr tu), .agg (cmA k c s n v), .int .i64 now] w fun e w' => e = .returned (.int .i64 (allE tc tr tu k c s n v now)) ∧ Below w.heap.size w w' := by
  have b1 : Below w.heap.size w (w.alloc (.cells (tkA tc tr tu) 23)) := (Below.refl _ _).alloc (Nat.le_refl _) _
  have bt := Bt.made w tc tr tu
  have z1 : (w.alloc (.cells (tkA tc tr tu) 23)).heap.size = w.heap.size + 1 := by simp
  have b2 : Below (w.alloc (.cells (tkA tc tr tu) 23)).heap.size (w.alloc (.cells (tkA tc tr tu) 23)) ((w.alloc (.cells (tkA tc tr tu) 23)).alloc (.cells (cmA k c s n v) 25)) := (Below.refl _ _).alloc (Nat.le_refl _) _
  have bc := Bc.made (w.alloc (.cells (tkA tc tr tu) 23)) k c s n v
  replace bt := bt.below b2
  have bb := b1.trans (b2.mono b1.size)
  have hT := ht.below bb
  rw [z1] at bc
  clear b1 b2 ht z1
  have hic := comInfo k c s n v
  have hit := tokInfo tc tr tu
  generalize hW : (w.alloc (.cells (tkA tc tr tu) 23)).alloc (.cells (cmA k c s n v) 25) = W at bb bt bc hT
  go_enter Tryz.func30, Tryz.ntmps30
  go_wp2_with (refine wpList_load_row rfl 23 _ rfl w.heap.size rfl 23 _ (0, 0) _ bt.row Tryz.underlying23 rfl hit ?_)
  clear hW
  refine (mayBe_tok tc tr tu _).mono ?_
  rintro e w1 ⟨rfl, b1⟩
  have d1 : Below w.heap.size w w1 := bb.trans (b1.mono bb.size)
  replace bt := bt.below b1
  replace bc := bc.below b1
  replace hT := hT.below b1
  clear b1 bb
  by_cases h1 : TokB tc tr tu
  · rw [decide_eq_true h1]
    go_wp2_with (refine wpList_load_row rfl 25 _ rfl (w.heap.size + 1) rfl 25 _ (0, 0) _ bc.row Tryz.underlying25 rfl hic ?_)
    refine (oCheck_any k c s n v _ hT).mono ?_
    rintro e w2 ⟨rfl, b2⟩
    have d2 : Below w.heap.size w w2 := d1.trans (b2.mono d1.size)
    replace bt := bt.below b2
    replace bc := bc.below b2
    replace hT := hT.below b2
    clear b2 d1
    by_cases h2 : comE k c s n v = 0
    · have hz := comE_zero h2
      obtain ⟨m, rfl⟩ := Int.eq_ofNat_of_zero_le hz.1.1
      have k0 : (0 : Int) ≤ (m : Int) := by omega
      have k1 : (m : Int) < 4 := by omega
      have k2 : m < 4 := by omega
      have hR := hT.right m (by omega)
      have hB := hasR_bits m tr (by omega) h1.2.1.1 h1.2.1.2
      obtain ⟨c0, c1, c2, c3, c4⟩ := cmA_cells bc.row
      obtain ⟨t0, t1, t2⟩ := tkA_cells bt.row
      have H1 : Hid (TokB tc tr tu) := h1
      have H2 : Hid (comE (m : Int) c s n v = 0) := h2
      rw [h2]
      clear h1 h2 hz bt bc hT
      by_cases h3 : c = tc
      · have h3' : decide (c = tc) = true := decide_eq_true h3
        by_cases h4 : bits .and .i64 tr (needR m) = 0
        · have HE : Hid (11 = allE tc tr tu (m : Int) c s n v now) := (allE_right H1.out H2.out (fun g => hB.1 h4 g.1)).symm
          have H3 : Hid (c = tc) := h3
          clear hB H1 H2
          subst h3
          clear h3'
          generalize needR m = R at hR h4
          go_wp2_with fail
          go_quiet (fail)
          have e1 : Below w.heap.size w (w2.drewN nq) := below_drewN d2 nq
          generalize w2.drewN nq = w3 at e1 ⊢
          go_wp2
          go_ret
          exact ⟨ret_num HE.out, e1⟩
        · have HR : Hid (HasR (m : Int) tr ∧ c = tc) := ⟨Classical.not_not.1 fun g => h4 (hB.2 g), h3⟩
          clear hB
          subst h3
          clear h3'
          generalize needR m = R at hR h4
          go_wp2_with fail
          go_quiet (fail)
          have e1 : Below w.heap.size w (w2.drewN nq) := below_drewN d2 nq
          have t2' : (w2.drewN nq).cell? ⟨w.heap.size, 2, none⟩ = some (.int .i64 tu) := by simpa using t2
          generalize w2.drewN nq = w3 at e1 t2' ⊢
          clear c0 c1 c2 c3 c4 t0 t1 t2 hR
          go_wp2_with fail
          refine (upTo_any now tu _).mono ?_
          rintro e w4 ⟨rfl, rfl⟩
          by_cases h5 : 0 ≤ now ∧ now ≤ tu
          · rw [decide_eq_true h5]
            have HE : Hid (0 = allE c tr tu (m : Int) c s n v now) := (allE_ok H1.out H2.out ⟨HR.out.1, rfl⟩ h5).symm
            go_wp2
            go_ret
            exact ⟨ret_num HE.out, e1⟩
          · rw [decide_eq_false h5]
            have HE : Hid (10 = allE c tr tu (m : Int) c s n v now) := (allE_time H1.out H2.out ⟨HR.out.1, rfl⟩ h5).symm
            go_wp2
            go_ret
            exact ⟨ret_num HE.out, e1⟩
      · have h3' : decide (c = tc) = false := decide_eq_false h3
        have HE : Hid (11 = allE tc tr tu (m : Int) c s n v now) := (allE_right H1.out H2.out (fun g => h3 g.2)).symm
        clear hB H1 H2
        go_wp2_with fail
        go_quiet (fail)
        have e1 : Below w.heap.size w (w2.drewN nq) := below_drewN d2 nq
        generalize w2.drewN nq = w3 at e1 ⊢
        go_wp2
        go_ret
        exact ⟨ret_num HE.out, e1⟩
    · have HE : Hid (comE k c s n v = allE tc tr tu k c s n v now) := (allE_com h1 h2).symm
      go_wp2
      go_ret
      exact ⟨ret_num HE.out, d2⟩
  · rw [decide_eq_false h1]
    have HE : Hid (2 = allE tc tr tu k c s n v now) := (allE_tok h1).symm
    go_wp2
    go_ret
    exact ⟨ret_num HE.out, d1⟩
end Go.Proofs.YtakgfdbjgeopdaaGreatDoor
/-
  The walk of the document's own power of two.
-/
namespace Go.Proofs.YtakgfdbjgeopdaaGreatDoor
open Go.RowKit

theorem ret_int {a b : Int} (h : a = b) : Ending.returned (.int .i64 a) = .returned (.int .i64 b) := by rw [h]

theorem power_any (n : Nat) (w : World) (hn : n ≤ 32) :
    Calls Tryz.prog 227 #[.int .i64 n] w fun e w' => e = .returned (.int .i64 ((2 ^ n : Nat) : Int)) ∧ w' = w := by
  go_enter Tryz.func227, Tryz.ntmps227
  go_wp2
  go_loop [3, 4] (fun p i => ∃ k : Nat, k ≤ n ∧ i = .int .i64 k ∧ p = .int .i64 ((2 ^ k : Nat) : Int)) (fun _ i => n - (intOf i).toNat)
  case atStart => exact ⟨0, by omega, rfl, rfl⟩
  case round =>
    obtain ⟨k, hk, rfl, rfl⟩ := hrel
    have hp : 2 ^ k ≤ 2 ^ 32 := Nat.pow_le_pow_right (by omega) (by omega)
    have hq : 2 ^ k ≤ 4294967296 := hp
    have HS : Hid (2 ^ (k + 1) = 2 * 2 ^ k) := by unfold Hid; rw [Nat.pow_succ, Nat.mul_comm]
    clear hp
    by_cases hlt : k < n
    · generalize 2 ^ k = P at hq HS ⊢
      go_wp2
      go_round
      case rel => exact ⟨k + 1, by omega, by go_num, by rw [HS.out]; go_num⟩
      case measure => simp [intOf]; omega
    · have HN : Hid (2 ^ n = 2 ^ k) := by unfold Hid; rw [show n = k by omega]
      generalize 2 ^ k = P at hq HS HN ⊢
      go_wp2
      go_ret
      exact ⟨ret_int (by rw [← HN.out]; simp), rfl⟩
end Go.Proofs.YtakgfdbjgeopdaaGreatDoor
/-
  The walks of the document's own small functions on words.
-/
namespace Go.Proofs.YtakgfdbjgeopdaaGreatDoor
open Go.RowKit

theorem turn_sum (x n : Nat) (hx : x < 4294967296) (h1 : n ≤ 32) : (x <<< (32 - n)) % 2 ^ 32 ||| x >>> n = x / 2 ^ n + x % 2 ^ n * 2 ^ (32 - n) := by
  have e1 : (x <<< (32 - n)) % 2 ^ 32 = x % 2 ^ n * 2 ^ (32 - n) := by
    rw [Nat.shiftLeft_eq]
    have : (2 : Nat) ^ 32 = 2 ^ n * 2 ^ (32 - n) := by rw [← Nat.pow_add]; congr 1; omega
    rw [this, Nat.mul_mod_mul_right]
  rw [e1, Nat.shiftRight_eq_div_pow]
  rw [nat_join (32 - n) _ _ (Nat.mul_mod_left _ _) ?_, Nat.add_comm]
  have : (2 : Nat) ^ 32 = 2 ^ n * 2 ^ (32 - n) := by rw [← Nat.pow_add]; congr 1; omega
  apply Nat.div_lt_of_lt_mul
  rw [← this]; exact hx

theorem uw_turned (x : BitVec 32) (n : Nat) (h0 : 1 ≤ n) (h1 : n ≤ 31) : uw x / ((2 ^ n : Nat) : Int) + uw x % ((2 ^ n : Nat) : Int) * ((2 ^ (32 - n) : Nat) : Int) = uw (x.rotateRight n) := by
  unfold uw
  rw [BitVec.rotateRight_def, Nat.mod_eq_of_lt (by omega : n < 32), BitVec.toNat_or, BitVec.toNat_ushiftRight, BitVec.toNat_shiftLeft, Nat.or_comm, turn_sum _ n x.isLt (by omega)]
  rw [Int.natCast_add, Int.natCast_mul, Int.natCast_ediv, Int.natCast_emod]

theorem turned_any (x : BitVec 32) (n : Nat) (w : World) (h0 : 1 ≤ n) (h1 : n ≤ 31) :
    Calls Tryz.prog 187 #[.int .i64 (uw x), .int .i64 n] w fun e w' => e = .returned (.int .i64 (uw (x.rotateRight n))) ∧ ∃ m, w' = w.drewN m := by
  have HT : Hid _ := uw_turned x n h0 h1
  have a1 := uw_lo x
  have a2 := uw_hi x
  have hP : 2 ^ n ≤ 2 ^ 31 := Nat.pow_le_pow_right (by omega) h1
  have hQ : 2 ^ (32 - n) ≤ 2 ^ 31 := Nat.pow_le_pow_right (by omega) (by omega)
  have hPQ : 2 ^ n * 2 ^ (32 - n) = 2 ^ 32 := by rw [← Nat.pow_add]; congr 1; omega
  have hP0 : 0 < 2 ^ n := Nat.two_pow_pos n
  have HPW : ∀ w, Calls Tryz.prog 227 #[.int .i64 n] w fun e w' => e = .returned (.int .i64 ((2 ^ n : Nat) : Int)) ∧ w' = w := fun w => power_any n w (by omega)
  have HPR : ∀ w, Calls Tryz.prog 227 #[.int .i64 (32 - (n : Int))] w fun e w' => e = .returned (.int .i64 ((2 ^ (32 - n) : Nat) : Int)) ∧ w' = w := fun w => by
    have := power_any (32 - n) w (by omega)
    rwa [show (((32 - n : Nat)) : Int) = 32 - (n : Int) by omega] at this
  generalize 2 ^ n = P at HT hP hPQ hP0 HPW
  generalize 2 ^ (32 - n) = Q at HT hQ hPQ HPR
  have hP31 : P ≤ 2147483648 := hP
  have hQ31 : Q ≤ 2147483648 := hQ
  have m0 : 0 ≤ uw x % (P : Int) := Int.emod_nonneg _ (by omega)
  have m1 : uw x % (P : Int) < P := Int.emod_lt_of_pos _ (by omega)
  have p0 : 0 ≤ uw x % (P : Int) * (Q : Int) := Int.mul_nonneg m0 (by omega)
  have p1 : uw x % (P : Int) * (Q : Int) ≤ 4294967296 := by
    have q1 : uw x % (P : Int) * (Q : Int) ≤ (P : Int) * (Q : Int) := Int.mul_le_mul_of_nonneg_right (by omega) (by omega)
    have q2 : (P : Int) * (Q : Int) = 4294967296 := by rw [← Int.natCast_mul, hPQ]; rfl
    omega
  have d0 : 0 ≤ uw x / (P : Int) := Int.ediv_nonneg a1 (by omega)
  have d1 : uw x / (P : Int) ≤ uw x := Int.ediv_le_self _ a1
  clear hP hQ hPQ
  go_enter Tryz.func187, Tryz.ntmps187
  go_wp2_with fail
  refine (HPW w).mono ?_
  rintro e w1 ⟨rfl, rfl⟩
  go_wp2_with fail
  go_quiet ((go_at_call 227; exact Calls.quiet_of_same (HPR _)))
  go_wp2
  go_ret
  exact ⟨ret_int HT.out, _, rfl⟩

theorem word32_any (m : Int) (w : World) (h0 : 0 ≤ m) (h1 : m ≤ 9223372036854775807) :
    Calls Tryz.prog 188 #[.int .i64 m] w fun e w' => e = .returned (.int .i64 (m % 4294967296)) ∧ w' = w := by
  go_enter Tryz.func188, Tryz.ntmps188
  go_wp2
  go_ret
  exact ⟨rfl, rfl⟩
end Go.Proofs.YtakgfdbjgeopdaaGreatDoor
