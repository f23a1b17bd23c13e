/-
  The walk of Take.
-/
import Derived.BigQuiet
import Derived.Deep.QuietTactic
import Derived.Test.YtakgfdbjgeopdaaGreatDoorKo25
import Derived.Test.YtakgfdbjgeopdaaGreatDoorKo26
import Derived.Test.YtakgfdbjgeopdaaGreatDoorKo24
import Derived.Test.YtakgfdbjgeopdaaGreatDoorKo2
namespace Go.Proofs.YtakgfdbjgeopdaaGreatDoor
open Go.RowKit
set_option linter.unusedVariables false

theorem takeE_ok {key : List Int} {s t : Int} {l : List Bool} {r : List Int} (h : takeE key s t l r = 0) : OkC key s t l ∧ 20 ≤ r.length ∧ r.length ≤ 2020 ∧ numL (r.take 4) < 1073741824 ∧ oldB t l (numL (r.take 4)) = false ∧ openE key (nonceL (r.take 4)) (r.take 4) (r.drop 4) = 0 := by
  unfold takeE at h
  by_cases h1 : OkC key s t l
  · rw [if_neg (fun h => h h1)] at h
    by_cases h2 : 2020 < r.length
    · rw [if_pos h2] at h; omega
    · rw [if_neg h2] at h
      by_cases h3 : r.length < 20
      · rw [if_pos h3] at h; omega
      · rw [if_neg h3] at h
        by_cases h4 : 1073741824 ≤ numL (r.take 4)
        · rw [if_pos h4] at h; omega
        · rw [if_neg h4] at h
          cases h5 : oldB t l (numL (r.take 4)) with
          | true => rw [h5, if_pos rfl] at h; omega
          | false =>
            rw [h5, if_neg (by simp)] at h
            exact ⟨h1, by omega, by omega, by omega, rfl, h⟩
  · rw [if_pos h1] at h; omega
theorem takeE_of {key : List Int} {s t : Int} {l : List Bool} {r : List Int} (h1 : OkC key s t l) (h2 : r.length ≤ 2020) (h3 : 20 ≤ r.length) (h4 : numL (r.take 4) < 1073741824) (h5 : oldB t l (numL (r.take 4)) = false) : takeE key s t l r = openE key (nonceL (r.take 4)) (r.take 4) (r.drop 4) := by
  unfold takeE
  rw [if_neg (fun h => h h1), if_neg (by omega), if_neg (by omega), if_neg (by omega), h5, if_neg (by simp)]
theorem takeE_old {key : List Int} {s t : Int} {l : List Bool} {r : List Int} (h1 : OkC key s t l) (h2 : r.length ≤ 2020) (h3 : 20 ≤ r.length) (h4 : numL (r.take 4) < 1073741824) (h5 : oldB t l (numL (r.take 4)) = true) : takeE key s t l r = 7 := by
  unfold takeE
  rw [if_neg (fun h => h h1), if_neg (by omega), if_neg (by omega), if_neg (by omega), h5, if_pos rfl]

set_option maxHeartbeats 2000000 in
set_option maxRecDepth 100000 in
theorem take_no (vk : Value) (key : List Int) (s t : Int) (l : List Bool) (vr : Value) (r : List Int) (w : World) (hk : Sl w vk key) (hl : l.length = 8) (hr : Sl w vr r) (ht : QTab w) (E : Int) (hE : takeE key s t l r = E) (hE0 : E ≠ 0) :
    Calls Tryz.prog 96 #[.agg (chA vk s t l), vr] w fun e w' => e = .returned (.tuple #[.agg (chA (.slice none 0 0) 0 0 noB), .slice none 0 0, .int .i64 E]) ∧ Below w.heap.size w w' := by
  have hpos := ht.pos
  have bx := By.new w vk s t l
  have hi := chInfo (k := vk) (s := s) (t := t) hl
  have HE : Hid (takeE key s t l r = E) := hE
  clear hE
  go_enter Tryz.func96, Tryz.ntmps96
  go_wp2_with (refine wpList_load_row rfl 55 _ rfl w.heap.size rfl 55 _ (0, 0) _ bx.row Tryz.underlying55 rfl hi ?_)
  refine (taken_any _ key s t l vr r _ (hk.below bx.bel) hl (hr.below bx.bel) (ht.below hpos bx.bel)).mono ?_
  rintro e w1 ⟨v2, n2, rfl, s2, b1⟩
  rw [HE.out]
  replace bx := bx.step b1
  clear b1
  have hi4 := chInfo (k := .slice none 0 0) (s := 0) (t := 0) noB_length
  have ho4 := chA_one (Sl.nil w none) 0 0 noB
  go_wp2_with (refine wpList_store_row rfl 55 _ _ rfl (w.heap.size + 1) (chA (.slice none 0 0) 0 0 noB) rfl rfl 55 _ bx.res hi4 rfl ho4 ?_)
  have r2 := setRow_heap w1 (w.heap.size + 1) _ (chA (.slice none 0 0) 0 0 noB) 55 _ bx.res
  exact bodyPost_ret (results_row3 rfl _ _ (w.heap.size + 1) 55 _ (0, 0) _ rfl r2 Tryz.underlying55 rfl hi4) rfl ⟨rfl, below_setRow bx.bel (by omega) _⟩

theorem chA_setSeen (k : Value) (s t : Int) (l : List Bool) (i : Nat) (x : Bool) : (chA k s t l).setIfInBounds (3 + i) (.bool x) = chA k s t (l.set i x) := by
  apply Array.ext'
  rw [Nat.add_comm]
  simp [chA, List.map_set]
theorem By.top {w W : World} {k : Value} {s t : Int} {l : List Bool} (h : By w W k s t l) (t' : Int) : By w (W.setCell ⟨w.heap.size, 2, none⟩ (.int .i64 t')) k s t' l :=
  ⟨by rw [heap_setCell_same _ _ _ _ _ _ h.row, chA_setTop], (heap_setCell_other _ _ _ _ (by simp)).trans h.res, h.bel.setCell (p := ⟨w.heap.size, 2, none⟩) (by simp) _⟩
theorem By.seen {w W : World} {k : Value} {s t : Int} {l : List Bool} (h : By w W k s t l) (i o : Nat) (ho : o = 3 + i) (x : Bool) (l' : List Bool) (hl' : l.set i x = l') : By w (W.setCell ⟨w.heap.size, o, none⟩ (.bool x)) k s t l' := by
  subst ho
  subst hl'
  exact ⟨by rw [heap_setCell_same _ _ _ _ _ _ h.row, chA_setSeen], (heap_setCell_other _ _ _ _ (by simp)).trans h.res, h.bel.setCell (p := ⟨w.heap.size, 3 + i, none⟩) (by simp) _⟩
theorem By.drew {w W : World} {k : Value} {s t : Int} {l : List Bool} (h : By w W k s t l) : By w W.drew k s t l := ⟨h.row, h.res, h.bel.drew⟩
/-- the whole window is laid into the box -/
theorem By.laid {w W : World} {a : Option Addr} {n c : Nat} {s t : Int} {x0 x1 x2 x3 x4 x5 x6 x7 : Bool} (h : By w W (.slice a n c) s t [x0, x1, x2, x3, x4, x5, x6, x7]) (T : Int) (b0 b1 b2 b3 b4 b5 b6 b7 : Bool) :
    By w (((((((((W.setCell ⟨w.heap.size, 2, none⟩ (.int .i64 T)).setCell ⟨w.heap.size, 3, none⟩ (.bool b0)).setCell ⟨w.heap.size, 4, none⟩ (.bool b1)).setCell ⟨w.heap.size, 5, none⟩ (.bool b2)).setCell ⟨w.heap.size, 6, none⟩ (.bool b3)).setCell ⟨w.heap.size, 7, none⟩ (.bool b4)).setCell ⟨w.heap.size, 8, none⟩ (.bool b5)).setCell ⟨w.heap.size, 9, none⟩ (.bool b6)).setCell ⟨w.heap.size, 10, none⟩ (.bool b7)).drew (.slice a n c) s T [b0, b1, b2, b3, b4, b5, b6, b7] ∧ (∀ v n xs, W.ownsRow 0 5 1 v n xs → (((((((((W.setCell ⟨w.heap.size, 2, none⟩ (.int .i64 T)).setCell ⟨w.heap.size, 3, none⟩ (.bool b0)).setCell ⟨w.heap.size, 4, none⟩ (.bool b1)).setCell ⟨w.heap.size, 5, none⟩ (.bool b2)).setCell ⟨w.heap.size, 6, none⟩ (.bool b3)).setCell ⟨w.heap.size, 7, none⟩ (.bool b4)).setCell ⟨w.heap.size, 8, none⟩ (.bool b5)).setCell ⟨w.heap.size, 9, none⟩ (.bool b6)).setCell ⟨w.heap.size, 10, none⟩ (.bool b7)).drew.ownsRow 0 5 1 v n xs) ∧ ∀ v p, Sl W v p → Sl (((((((((W.setCell ⟨w.heap.size, 2, none⟩ (.int .i64 T)).setCell ⟨w.heap.size, 3, none⟩ (.bool b0)).setCell ⟨w.heap.size, 4, none⟩ (.bool b1)).setCell ⟨w.heap.size, 5, none⟩ (.bool b2)).setCell ⟨w.heap.size, 6, none⟩ (.bool b3)).setCell ⟨w.heap.size, 7, none⟩ (.bool b4)).setCell ⟨w.heap.size, 8, none⟩ (.bool b5)).setCell ⟨w.heap.size, 9, none⟩ (.bool b6)).setCell ⟨w.heap.size, 10, none⟩ (.bool b7)).drew v p := by
  have h0 := h.top T
  have h1 := h0.seen 0 3 rfl b0 [b0, x1, x2, x3, x4, x5, x6, x7] rfl
  have h2 := h1.seen 1 4 rfl b1 [b0, b1, x2, x3, x4, x5, x6, x7] rfl
  have h3 := h2.seen 2 5 rfl b2 [b0, b1, b2, x3, x4, x5, x6, x7] rfl
  have h4 := h3.seen 3 6 rfl b3 [b0, b1, b2, b3, x4, x5, x6, x7] rfl
  have h5 := h4.seen 4 7 rfl b4 [b0, b1, b2, b3, b4, x5, x6, x7] rfl
  have h6 := h5.seen 5 8 rfl b5 [b0, b1, b2, b3, b4, b5, x6, x7] rfl
  have h7 := h6.seen 6 9 rfl b6 [b0, b1, b2, b3, b4, b5, b6, x7] rfl
  have h8 := h7.seen 7 10 rfl b7 [b0, b1, b2, b3, b4, b5, b6, b7] rfl
  refine ⟨h8.drew, fun v n xs ho => ?_, fun v p hs => ?_⟩
  · exact (own_setBox (own_setBox (own_setBox (own_setBox (own_setBox (own_setBox (own_setBox (own_setBox (own_setBox ho h.row (by decide) 2 _) h0.row (by decide) 3 _) h1.row (by decide) 4 _) h2.row (by decide) 5 _) h3.row (by decide) 6 _) h4.row (by decide) 7 _) h5.row (by decide) 8 _) h6.row (by decide) 9 _) h7.row (by decide) 10 _).drew
  exact (((((((((hs.setBox h.row 2 _).setBox h0.row 3 _).setBox h1.row 4 _).setBox h2.row 5 _).setBox h3.row 6 _).setBox h4.row 7 _).setBox h5.row 8 _).setBox h6.row 9 _).setBox h7.row 10 _).drew

set_option maxHeartbeats 2000000 in
set_option maxRecDepth 100000 in
theorem take_ok (vk : Value) (key : List Int) (s t : Int) (l : List Bool) (vr : Value) (r : List Int) (w : World) (hk : Sl w vk key) (hl : l.length = 8) (hr : Sl w vr r) (ht : QTab w) (hE : takeE key s t l r = 0) (n : Int) (hn : numL (r.take 4) = n) :
    Calls Tryz.prog 96 #[.agg (chA vk s t l), vr] w fun e w' => ∃ v1, ∃ v2, e = .returned (.tuple #[.agg (chA v1 s (takT t n) (takS t l n)), v2, .int .i64 0]) ∧ Sl w' v1 key ∧ w'.ownsRow 0 5 1 v1 key.length (key.map (Value.int .u8)) ∧ Sl w' v2 (takeL key r) ∧ Below w.heap.size w w' := by
  have hpos := ht.pos
  have bx := By.new w vk s t l
  have hi := chInfo (k := vk) (s := s) (t := t) hl
  obtain ⟨hok, hr20, hr2020, hn1, hold, hop⟩ := takeE_ok hE
  rw [hn] at hn1 hold
  have hn0 : 0 ≤ n := by
    rw [← hn]
    exact (numL_range (by rw [List.length_take]; omega) (fun x hx => hr.byte x (List.mem_of_mem_take hx))).1
  have hn8 : t - 8 ≤ n := by
    by_cases h : n < t - 8
    · rw [oldB_low h] at hold; cases hold
    · omega
  have t0 := hok.t0
  have t1 := hok.t1
  have HE : Hid (takeE key s t l r = 0) := hE
  have HN : Hid (numL (r.take 4) = n) := hn
  obtain ⟨ak, ck, rfl⟩ := hk.shape
  generalize hnk : key.length = nk at hk hi bx ⊢
  have HNK : Hid (key.length = nk) := hnk
  clear hnk
  go_enter Tryz.func96, Tryz.ntmps96
  clear hE hok hn hold hop hr20 hr2020
  go_wp2_with (refine wpList_load_row rfl 55 _ rfl w.heap.size rfl 55 _ (0, 0) _ bx.row Tryz.underlying55 rfl hi ?_)
  refine (taken_any _ key s t l vr r _ (hk.below bx.bel) hl (hr.below bx.bel) (ht.below hpos bx.bel)).mono ?_
  rintro e w1 ⟨v2, n2, rfl, s2', b1⟩
  rw [HE.out]
  obtain ⟨hn2, s2⟩ := s2' HE.out
  rw [HN.out] at hn2
  subst hn2
  replace bx := bx.step b1
  clear b1 s2'
  go_wp2_with (refine wpList_load_row rfl 55 _ rfl w.heap.size rfl 55 _ (0, 0) _ bx.row Tryz.underlying55 rfl hi ?_)
  refine (windowOf_any _ s t l w1 hl).mono ?_
  rintro e w2 ⟨rfl, b2⟩
  replace bx := bx.step b2
  replace s2 := s2.below b2
  clear b2
  go_wp2_with fail
  refine (with_any t n2 l w2 hl t0 t1 hn8 hn0 hn1).mono ?_
  rintro e w3 ⟨rfl, b3⟩
  replace bx := bx.step b3
  replace s2 := s2.below b3
  clear b3
  have hSl := takS_length t l n2
  generalize hT : takT t n2 = T
  generalize hS : takS t l n2 = S at hSl
  have HT : Hid (takT t n2 = T) := hT
  have HS : Hid (takS t l n2 = S) := hS
  clear hT hS
  obtain ⟨b0, b1, b2, b3, b4, b5, b6, b7, rfl⟩ := eight S hSl
  simp only [wA, List.map]
  go_upto_region 5 with fail
  have g0 : (w3.alloc (.cells (wA T [b0, b1, b2, b3, b4, b5, b6, b7]) 190)).heap[w3.heap.size]? = some (.cells (wA T [b0, b1, b2, b3, b4, b5, b6, b7]) 190 (0, 0)) := heap_alloc_new _ _
  have b4' : Below w3.heap.size w3 (w3.alloc (.cells (wA T [b0, b1, b2, b3, b4, b5, b6, b7]) 190)) := (Below.refl _ _).alloc (Nat.le_refl _) _
  simp only [wA, List.map] at g0 b4'
  have hG := bx.lt
  replace bx := bx.step b4'
  replace s2 := s2.below b4'
  generalize w3.alloc (.cells #[.int .i64 T, .bool b0, .bool b1, .bool b2, .bool b3, .bool b4, .bool b5, .bool b6, .bool b7] 190) = w4 at g0 b4' bx s2 ⊢
  clear b4'
  generalize w3.heap.size = G at g0 hG ⊢
  have c0 := bx.c0
  have hGz : G < w4.heap.size := (Array.getElem?_eq_some_iff.1 g0).1
  go_wp2_with fail
  refine (clone_any _ key w4 (hk.below bx.bel)).mono ?_
  rintro e w5 ⟨v1, rfl, o1, b5'⟩
  replace bx := bx.step b5'
  replace s2 := s2.below b5'
  replace g0 := (b5'.block G hGz).trans g0
  have sk := Sl.ofOwns o1 hk.len hk.byte
  replace o1 := owns_lower o1 (Nat.zero_le _)
  clear b5' c0 hGz
  obtain ⟨a1, c1, hv1⟩ := sk.shape
  generalize hn1 : key.length = n1 at hv1 o1
  have HKN : Hid (key.length = n1) := hn1
  clear hn1
  subst hv1
  have c0 := bx.c0
  have f0 := bx.fr 0
  go_upto_region 6 with fail
  replace s2 := s2.setBox bx.row 0 (.slice a1 n1 c1)
  replace sk := sk.setBox bx.row 0 (.slice a1 n1 c1)
  replace o1 := own_setBox o1 bx.row (by decide) 0 (.slice a1 n1 c1)
  have g1 : (w5.setCell ⟨w.heap.size, 0, none⟩ (.slice a1 n1 c1)).heap[G]? = some (.cells (wA T [b0, b1, b2, b3, b4, b5, b6, b7]) 190 (0, 0)) := (heap_setCell_other _ _ _ _ (by simp; omega)).trans g0
  replace bx := bx.key (.slice a1 n1 c1)
  generalize w5.setCell ⟨w.heap.size, 0, none⟩ (.slice a1 n1 c1) = w6 at s2 sk o1 bx g1 ⊢
  clear c0 f0 g0
  have e1 : Below w6.heap.size w6 w6.drew := (Below.refl _ _).drew
  obtain ⟨x0, x1, x2, x3, x4, x5, x6, x7, rfl⟩ := eight l hl
  obtain ⟨c0, c1', c2, c3, c4, c5, c6, c7, c8, c9, c10⟩ := chA_cells bx.row
  obtain ⟨e0, e1', e2, e3, e4, e5, e6, e7, e8⟩ := wA_cells g1
  have f2 := bx.fr 2
  have f3 := bx.fr 3
  have f4 := bx.fr 4
  have f5 := bx.fr 5
  have f6 := bx.fr 6
  have f7 := bx.fr 7
  have f8 := bx.fr 8
  have f9 := bx.fr 9
  have f10 := bx.fr 10
  have hne : ¬ G = w.heap.size := by omega
  have hne' : ¬ w.heap.size = G := by omega
  go_region
  obtain ⟨by2, hO2, hS2⟩ := bx.laid T b0 b1 b2 b3 b4 b5 b6 b7
  replace s2 := hS2 _ _ s2
  replace sk := hS2 _ _ sk
  replace o1 := hO2 _ _ _ o1
  clear hS2 hO2 c0 c1' c2 c3 c4 c5 c6 c7 c8 c9 c10 e0 e1' e2 e3 e4 e5 e6 e7 e8 f2 f3 f4 f5 f6 f7 f8 f9 f10 bx g1 e1
  generalize (((((((((w6.setCell ⟨w.heap.size, 2, none⟩ (.int .i64 T)).setCell ⟨w.heap.size, 3, none⟩ (.bool b0)).setCell ⟨w.heap.size, 4, none⟩ (.bool b1)).setCell ⟨w.heap.size, 5, none⟩ (.bool b2)).setCell ⟨w.heap.size, 6, none⟩ (.bool b3)).setCell ⟨w.heap.size, 7, none⟩ (.bool b4)).setCell ⟨w.heap.size, 8, none⟩ (.bool b5)).setCell ⟨w.heap.size, 9, none⟩ (.bool b6)).setCell ⟨w.heap.size, 10, none⟩ (.bool b7)).drew = w7 at by2 s2 sk o1 ⊢
  have hi4 := chInfo (k := .slice a1 n1 c1) (s := s) (t := T) hSl
  have ho4 := chA_one sk s T [b0, b1, b2, b3, b4, b5, b6, b7]
  have hold : (chA (.slice none 0 0) 0 0 noB).size = (chA (.slice a1 n1 c1) s T [b0, b1, b2, b3, b4, b5, b6, b7]).size := rfl
  go_wp2_with (first
    | (refine wpList_load_row rfl 55 _ rfl w.heap.size rfl 55 _ (0, 0) _ by2.row Tryz.underlying55 rfl hi4 ?_)
    | (refine wpList_store_row rfl 55 _ _ rfl (w.heap.size + 1) _ rfl rfl 55 _ by2.res hi4 hold ho4 ?_))
  have r2 := setRow_heap w7 (w.heap.size + 1) _ (chA (.slice a1 n1 c1) s T [b0, b1, b2, b3, b4, b5, b6, b7]) 55 _ by2.res
  exact bodyPost_ret (results_row3 rfl _ _ (w.heap.size + 1) 55 _ (0, 0) _ rfl r2 Tryz.underlying55 rfl hi4) rfl ⟨.slice a1 n1 c1, v2, by rw [HT.out, HS.out]; rfl, sk.setRowBox by2.res _, by rw [← HNK.out, HKN.out]; exact own_setRowBox o1 by2.res (by decide) _, s2.setRowBox by2.res _, below_setRow by2.bel (by omega) _⟩
end Go.Proofs.YtakgfdbjgeopdaaGreatDoor
/-
  New channels, and their cells.
-/
namespace Go.Proofs.YtakgfdbjgeopdaaGreatDoor
open Go.RowKit
set_option linter.unusedVariables false

theorem chA_lit (k : Value) (s t : Int) (b0 b1 b2 b3 b4 b5 b6 b7 : Bool) : chA k s t [b0, b1, b2, b3, b4, b5, b6, b7] = #[k, .int .i64 s, .int .i64 t, .bool b0, .bool b1, .bool b2, .bool b3, .bool b4, .bool b5, .bool b6, .bool b7] := rfl
theorem chA_noB (k : Value) (s t : Int) : chA k s t noB = #[k, .int .i64 s, .int .i64 t, .bool false, .bool false, .bool false, .bool false, .bool false, .bool false, .bool false, .bool false] := rfl

/-- what New makes of a key that is long enough -/
theorem new_ok (vk : Value) (key : List Int) (w : World) (hk : Sl w vk key) (h32 : key.length = 32) :
    Calls Tryz.prog 95 #[vk] w fun e w' => ∃ v', e = .returned (.tuple #[.agg (chA v' 0 0 noB), .int .i64 0]) ∧ Sl w' v' key ∧ w'.ownsRow 0 5 1 v' key.length (key.map (Value.int .u8)) ∧ Below w.heap.size w w' := by
  refine (new_any vk key w hk).mono ?_
  rintro e w1 ⟨v', rfl, s1, b1⟩
  rw [if_pos h32] at s1 ⊢
  exact ⟨v', rfl, Sl.ofOwns s1 hk.len hk.byte, s1, b1⟩
end Go.Proofs.YtakgfdbjgeopdaaGreatDoor
/-
  The walk of the document's own power of two.
-/
namespace Go.Proofs.YtakgfdbjgeopdaaGreatDoor
open Go.RowKit

theorem ret_int {a b : Int} (h : a = b) : Ending.returned (.int .i64 a) = .returned (.int .i64 b) := by rw [h]

theorem power_any (n : Nat) (w : World) (hn : n ≤ 32) :
    Calls Tryz.prog 227 #[.int .i64 n] w fun e w' => e = .returned (.int .i64 ((2 ^ n : Nat) : Int)) ∧ w' = w := by
  go_enter Tryz.func227, Tryz.ntmps227
  go_wp2
  go_loop [3, 4] (fun p i => ∃ k : Nat, k ≤ n ∧ i = .int .i64 k ∧ p = .int .i64 ((2 ^ k : Nat) : Int)) (fun _ i => n - (intOf i).toNat)
  case atStart => exact ⟨0, by omega, rfl, rfl⟩
  case round =>
    obtain ⟨k, hk, rfl, rfl⟩ := hrel
    have hp : 2 ^ k ≤ 2 ^ 32 := Nat.pow_le_pow_right (by omega) (by omega)
    have hq : 2 ^ k ≤ 4294967296 := hp
    have HS : Hid (2 ^ (k + 1) = 2 * 2 ^ k) := by unfold Hid; rw [Nat.pow_succ, Nat.mul_comm]
    clear hp
    by_cases hlt : k < n
    · generalize 2 ^ k = P at hq HS ⊢
      go_wp2
      go_round
      case rel => exact ⟨k + 1, by omega, by go_num, by rw [HS.out]; go_num⟩
      case measure => simp [intOf]; omega
    · have HN : Hid (2 ^ n = 2 ^ k) := by unfold Hid; rw [show n = k by omega]
      generalize 2 ^ k = P at hq HS HN ⊢
      go_wp2
      go_ret
      exact ⟨ret_int (by rw [← HN.out]; simp), rfl⟩
end Go.Proofs.YtakgfdbjgeopdaaGreatDoor
/-
  The walks of the document's own small functions on words.
-/
namespace Go.Proofs.YtakgfdbjgeopdaaGreatDoor
open Go.RowKit

theorem turn_sum (x n : Nat) (hx : x < 4294967296) (h1 : n ≤ 32) : (x <<< (32 - n)) % 2 ^ 32 ||| x >>> n = x / 2 ^ n + x % 2 ^ n * 2 ^ (32 - n) := by
  have e1 : (x <<< (32 - n)) % 2 ^ 32 = x % 2 ^ n * 2 ^ (32 - n) := by
    rw [Nat.shiftLeft_eq]
    have : (2 : Nat) ^ 32 = 2 ^ n * 2 ^ (32 - n) := by rw [← Nat.pow_add]; congr 1; omega
    rw [this, Nat.mul_mod_mul_right]
  rw [e1, Nat.shiftRight_eq_div_pow]
  rw [nat_join (32 - n) _ _ (Nat.mul_mod_left _ _) ?_, Nat.add_comm]
  have : (2 : Nat) ^ 32 = 2 ^ n * 2 ^ (32 - n) := by rw [← Nat.pow_add]; congr 1; omega
  apply Nat.div_lt_of_lt_mul
  rw [← this]; exact hx

theorem uw_turned (x : BitVec 32) (n : Nat) (h0 : 1 ≤ n) (h1 : n ≤ 31) : uw x / ((2 ^ n : Nat) : Int) + uw x % ((2 ^ n : Nat) : Int) * ((2 ^ (32 - n) : Nat) : Int) = uw (x.rotateRight n) := by
  unfold uw
  rw [BitVec.rotateRight_def, Nat.mod_eq_of_lt (by omega : n < 32), BitVec.toNat_or, BitVec.toNat_ushiftRight, BitVec.toNat_shiftLeft, Nat.or_comm, turn_sum _ n x.isLt (by omega)]
  rw [Int.natCast_add, Int.natCast_mul, Int.natCast_ediv, Int.natCast_emod]

theorem turned_any (x : BitVec 32) (n : Nat) (w : World) (h0 : 1 ≤ n) (h1 : n ≤ 31) :
    Calls Tryz.prog 187 #[.int .i64 (uw x), .int .i64 n] w fun e w' => e = .returned (.int .i64 (uw (x.rotateRight n))) ∧ ∃ m, w' = w.drewN m := by
  have HT : Hid _ := uw_turned x n h0 h1
  have a1 := uw_lo x
  have a2 := uw_hi x
  have hP : 2 ^ n ≤ 2 ^ 31 := Nat.pow_le_pow_right (by omega) h1
  have hQ : 2 ^ (32 - n) ≤ 2 ^ 31 := Nat.pow_le_pow_right (by omega) (by omega)
  have hPQ : 2 ^ n * 2 ^ (32 - n) = 2 ^ 32 := by rw [← Nat.pow_add]; congr 1; omega
  have hP0 : 0 < 2 ^ n := Nat.two_pow_pos n
  have HPW : ∀ w, Calls Tryz.prog 227 #[.int .i64 n] w fun e w' => e = .returned (.int .i64 ((2 ^ n : Nat) : Int)) ∧ w' = w := fun w => power_any n w (by omega)
  have HPR : ∀ w, Calls Tryz.prog 227 #[.int .i64 (32 - (n : Int))] w fun e w' => e = .returned (.int .i64 ((2 ^ (32 - n) : Nat) : Int)) ∧ w' = w := fun w => by
    have := power_any (32 - n) w (by omega)
    rwa [show (((32 - n : Nat)) : Int) = 32 - (n : Int) by omega] at this
  generalize 2 ^ n = P at HT hP hPQ hP0 HPW
  generalize 2 ^ (32 - n) = Q at HT hQ hPQ HPR
  have hP31 : P ≤ 2147483648 := hP
  have hQ31 : Q ≤ 2147483648 := hQ
  have m0 : 0 ≤ uw x % (P : Int) := Int.emod_nonneg _ (by omega)
  have m1 : uw x % (P : Int) < P := Int.emod_lt_of_pos _ (by omega)
  have p0 : 0 ≤ uw x % (P : Int) * (Q : Int) := Int.mul_nonneg m0 (by omega)
  have p1 : uw x % (P : Int) * (Q : Int) ≤ 4294967296 := by
    have q1 : uw x % (P : Int) * (Q : Int) ≤ (P : Int) * (Q : Int) := Int.mul_le_mul_of_nonneg_right (by omega) (by omega)
    have q2 : (P : Int) * (Q : Int) = 4294967296 := by rw [← Int.natCast_mul, hPQ]; rfl
    omega
  have d0 : 0 ≤ uw x / (P : Int) := Int.ediv_nonneg a1 (by omega)
  have d1 : uw x / (P : Int) ≤ uw x := Int.ediv_le_self _ a1
  clear hP hQ hPQ
  go_enter Tryz.func187, Tryz.ntmps187
  go_wp2_with fail
  refine (HPW w).mono ?_
  rintro e w1 ⟨rfl, rfl⟩
  go_wp2_with fail
  go_quiet ((go_at_call 227; exact Calls.quiet_of_same (HPR _)))
  go_wp2
  go_ret
  exact ⟨ret_int HT.out, _, rfl⟩

theorem word32_any (m : Int) (w : World) (h0 : 0 ≤ m) (h1 : m ≤ 9223372036854775807) :
    Calls Tryz.prog 188 #[.int .i64 m] w fun e w' => e = .returned (.int .i64 (m % 4294967296)) ∧ w' = w := by
  go_enter Tryz.func188, Tryz.ntmps188
  go_wp2
  go_ret
  exact ⟨rfl, rfl⟩
end Go.Proofs.YtakgfdbjgeopdaaGreatDoor
/-
  Words as numbers of 64 bits, and rows of such words in memory.
-/
namespace Go.Proofs.YtakgfdbjgeopdaaGreatDoor
open Go.RowKit

theorem ofInt64 (a : Nat) (h : a < 4294967296) : (BitVec.ofInt 64 (a : Int)).toNat = a := by
  rw [BitVec.ofInt_natCast, BitVec.toNat_ofNat]; exact Nat.mod_eq_of_lt (by omega)
theorem wrap64 (n : Nat) (h : n < 4294967296) : IntKind.i64.wrap (n : Int) = n := by
  simp [IntKind.wrap, IntKind.bits, IntKind.signed]
  omega
theorem uw_xor64 (x y : BitVec 32) : bits .xor .i64 (uw x) (uw y) = uw (x ^^^ y) := by
  unfold uw
  show IntKind.i64.wrap ((BitVec.ofInt 64 (x.toNat : Int) ^^^ BitVec.ofInt 64 (y.toNat : Int)).toNat : Int) = _
  rw [BitVec.toNat_xor, ofInt64 _ x.isLt, ofInt64 _ y.isLt, wrap64 _ (Nat.xor_lt_two_pow (n := 32) x.isLt y.isLt), BitVec.toNat_xor]
theorem uw_and64 (x y : BitVec 32) : bits .and .i64 (uw x) (uw y) = uw (x &&& y) := by
  unfold uw
  show IntKind.i64.wrap ((BitVec.ofInt 64 (x.toNat : Int) &&& BitVec.ofInt 64 (y.toNat : Int)).toNat : Int) = _
  rw [BitVec.toNat_and, ofInt64 _ x.isLt, ofInt64 _ y.isLt, wrap64 _ (Nat.and_lt_two_pow (n := 32) _ y.isLt), BitVec.toNat_and]
theorem uw_or64 (x y : BitVec 32) : bits .or .i64 (uw x) (uw y) = uw (x ||| y) := by
  unfold uw
  show IntKind.i64.wrap ((BitVec.ofInt 64 (x.toNat : Int) ||| BitVec.ofInt 64 (y.toNat : Int)).toNat : Int) = _
  rw [BitVec.toNat_or, ofInt64 _ x.isLt, ofInt64 _ y.isLt, wrap64 _ (Nat.or_lt_two_pow (n := 32) x.isLt y.isLt), BitVec.toNat_or]

theorem take_set_succ (xs : List (BitVec 32)) (k : Nat) (a : BitVec 32) (h : k < xs.length) : (xs.set k a).take (k + 1) = xs.take k ++ [a] := by
  rw [List.take_succ_eq_append_getElem (by simpa using h), List.take_set_of_le (by omega)]
  simp

def iw (x : BitVec 32) : Value := .int .i64 (uw x)

structure Wl (w : World) (v : Value) (ws : List (BitVec 32)) : Prop where
  ex : ∃ g cap, v = .slice (some ⟨g, 0, none⟩) ws.length cap ∧ g < w.heap.size ∧ ws.length ≤ cap ∧ ∀ i, i < ws.length → w.cell? ⟨g, i, none⟩ = some (.int .i64 (uw (ws.getD i 0#32)))

theorem Wl.below {w w' : World} {v : Value} {ws : List (BitVec 32)} (h : Wl w v ws) (hb : Below w.heap.size w w') : Wl w' v ws := by
  obtain ⟨g, cap, rfl, hg, hc, hcell⟩ := h.ex
  exact ⟨g, cap, rfl, Nat.lt_of_lt_of_le hg hb.size, hc, fun i hi => (hb.cell (p := ⟨g, i, none⟩) hg).trans (hcell i hi)⟩

theorem Wl.ofOwns {w : World} {base : Nat} {v : Value} {ws : List (BitVec 32)} (h : w.ownsRow base 3 1 v ws.length (ws.map iw)) (hne : 0 < ws.length) : Wl w v ws := by
  rcases h.2 with ⟨rfl, h0⟩ | ⟨g, cap, cur, rfl, _, hg, hn, _, hcs, ht⟩
  · omega
  · refine ⟨g, cap, rfl, (Array.getElem?_eq_some_iff.1 hg).1, hn, fun i hi => ?_⟩
    have hc := h.cells (g := g) rfl i (iw (ws.getD i 0#32)) (by simp [List.getElem?_eq_getElem hi, List.getD])
    have hadd : (⟨g, 0, none⟩ : Addr).add i = ⟨g, i, none⟩ := by unfold Addr.add; split <;> simp_all
    rw [hadd] at hc
    simpa [iw] using hc

theorem Wl.ofRow {w : World} {g : Nat} {ws : List (BitVec 32)} {e : TypeId} {q : Nat × Nat} (h : w.heap[g]? = some (.cells (ws.map iw).toArray e q)) {n : Nat} (hn : ws.length = n) : Wl w (.slice (some ⟨g, 0, none⟩) n n) ws := by
  subst hn
  refine ⟨g, ws.length, rfl, (Array.getElem?_eq_some_iff.1 h).1, Nat.le_refl _, fun i hi => ?_⟩
  rw [cell_of_row _ _ i _ _ _ h]
  simp [List.getElem?_eq_getElem hi, List.getD, iw]

theorem info3 : (Tryz.prog.info? 3).map (fun i => (i.zero, i.size, i.bytes)) = some (some (.int .i64 0), 1, 8) := by kernel_rfl

/-- one word more behind a row of words of the call's own -/
theorem run_append_word (w : World) (base ty : Nat) (v : Value) (ws : List (BitVec 32)) (hown : w.ownsRow base 3 1 v ws.length (ws.map iw)) (g : Nat) (x : BitVec 32) (hu : w.cell? ⟨g, 0, none⟩ = some (.int .i64 (uw x)))
    (hlen : ws.length ≤ 1000000) (hbase : base ≤ w.heap.size) :
    ∃ v' w', (Builtin.append_ #[88, 88] ty #[v, .slice (some ⟨g, 0, none⟩) 1 1]).run Tryz.prog w = .ok v' w' ∧ w'.ownsRow base 3 1 v' (ws ++ [x]).length ((ws ++ [x]).map iw) ∧ w.grownBy w' v.ownBlock := by
  obtain ⟨i, hi, hz, hsz, hby⟩ := info_parts info3
  obtain ⟨v', w', hr, ho, hg, _⟩ := run_append_own (P := Tryz.prog) w base 88 ty 3 i (.int .i64 0) 1 8 Tryz.underlying88 hi hz hsz hby rfl (by decide) v ws.length _ hown ⟨g, 0, none⟩ 1 1 [iw x] (by simp)
    (by
      intro j u hj
      obtain rfl : j = 0 := by
        have := (List.getElem?_eq_some_iff.1 hj).1
        simpa using this
      simp at hj
      subst hj
      exact hu)
    (by simp [iw, Value.oneCell']) (by unfold maxLen; omega) (by omega) hbase
  exact ⟨v', w', hr, by simpa using ho, hg⟩

theorem wpList_append_word (w : World) {ops : Array Oper} {rest : List Oper} {o : Oper} {a : Act} {Q : Exit → Act → World → Prop} (hgd : o.guard = none) (s y : Operand)
    (ho : o.op = .call { callee := .builtin .append, args := #[s, y], argTypes := #[88, 88] })
    (base : Nat) (v : Value) (ws : List (BitVec 32)) (g : Nat) (x : BitVec 32) (hs : a.eval s = v) (hx : a.eval y = .slice (some ⟨g, 0, none⟩) 1 1) (hown : w.ownsRow base 3 1 v ws.length (ws.map iw)) (hu : w.cell? ⟨g, 0, none⟩ = some (.int .i64 (uw x)))
    (hlen : ws.length ≤ 1000000) (hbase : base ≤ w.heap.size)
    (h : ∀ v' w', w'.ownsRow base 3 1 v' (ws ++ [x]).length ((ws ++ [x]).map iw) → w.grownBy w' v.ownBlock → wpList Tryz.prog ops Q rest (a.put o.dst v') w') : wpList Tryz.prog ops Q (o :: rest) a w := by
  refine wpList_plain hgd fun K hK => ?_
  obtain ⟨v', w', hrun, r1, r2⟩ := run_append_word w base o.type v ws hown g x hu hlen hbase
  unfold Oper.wp execOp
  simp only [ho, resolve, invoke, builtin, Sem.run_bind, Sem.run_pure, Result.andThen_ok, List.map_toArray, List.map_cons, List.map_nil, hs, hx, hrun]
  exact hK _ _ (h v' w' r1 r2)
end Go.Proofs.YtakgfdbjgeopdaaGreatDoor
