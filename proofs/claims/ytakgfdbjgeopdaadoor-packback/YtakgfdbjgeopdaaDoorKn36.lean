/-
  The walk of Take.
-/
import Derived.Test.YtakgfdbjgeopdaaDoorKn33
import Derived.Test.YtakgfdbjgeopdaaDoorKn35
import Derived.Test.YtakgfdbjgeopdaaDoorKn32
import Derived.Test.YtakgfdbjgeopdaaDoorKn27
namespace Go.Proofs.YtakgfdbjgeopdaaDoor
open Go.RowKit
set_option linter.unusedVariables false

theorem takeE_ok {key : List Int} {s t : Int} {l : List Bool} {r : List Int} (h : takeE key s t l r = 0) : OkC key s t l ∧ 20 ≤ r.length ∧ r.length ≤ 2020 ∧ numL (r.take 4) < 1073741824 ∧ oldB t l (numL (r.take 4)) = false ∧ openE key (nonceL (r.take 4)) (r.take 4) (r.drop 4) = 0 := by
  unfold takeE at h
  by_cases h1 : OkC key s t l
  · rw [if_neg (fun h => h h1)] at h
    by_cases h2 : 2020 < r.length
    · rw [if_pos h2] at h; omega
    · rw [if_neg h2] at h
      by_cases h3 : r.length < 20
      · rw [if_pos h3] at h; omega
      · rw [if_neg h3] at h
        by_cases h4 : 1073741824 ≤ numL (r.take 4)
        · rw [if_pos h4] at h; omega
        · rw [if_neg h4] at h
          cases h5 : oldB t l (numL (r.take 4)) with
          | true => rw [h5, if_pos rfl] at h; omega
          | false =>
            rw [h5, if_neg (by simp)] at h
            exact ⟨h1, by omega, by omega, by omega, rfl, h⟩
  · rw [if_pos h1] at h; omega
theorem takeE_of {key : List Int} {s t : Int} {l : List Bool} {r : List Int} (h1 : OkC key s t l) (h2 : r.length ≤ 2020) (h3 : 20 ≤ r.length) (h4 : numL (r.take 4) < 1073741824) (h5 : oldB t l (numL (r.take 4)) = false) : takeE key s t l r = openE key (nonceL (r.take 4)) (r.take 4) (r.drop 4) := by
  unfold takeE
  rw [if_neg (fun h => h h1), if_neg (by omega), if_neg (by omega), if_neg (by omega), h5, if_neg (by simp)]
theorem takeE_old {key : List Int} {s t : Int} {l : List Bool} {r : List Int} (h1 : OkC key s t l) (h2 : r.length ≤ 2020) (h3 : 20 ≤ r.length) (h4 : numL (r.take 4) < 1073741824) (h5 : oldB t l (numL (r.take 4)) = true) : takeE key s t l r = 7 := by
  unfold takeE
  rw [if_neg (fun h => h h1), if_neg (by omega), if_neg (by omega), if_neg (by omega), h5, if_pos rfl]

set_option maxHeartbeats 2000000 in
set_option maxRecDepth 100000 in
theorem take_no (vk : Value) (key : List Int) (s t : Int) (l : List Bool) (vr : Value) (r : List Int) (w : World) (hk : Sl w vk key) (hl : l.length = 8) (hr : Sl w vr r) (ht : QTab w) (E : Int) (hE : takeE key s t l r = E) (hE0 : E ≠ 0) :
    Calls Tryd.prog 56 #[.agg (chA vk s t l), vr] w fun e w' => e = .returned (.tuple #[.agg (chA (.slice none 0 0) 0 0 noB), .slice none 0 0, .int .i64 E]) ∧ Below w.heap.size w w' := by
  have hpos := ht.pos
  have bx := By.new w vk s t l
  have hi := chInfo (k := vk) (s := s) (t := t) hl
  have HE : Hid (takeE key s t l r = E) := hE
  clear hE
  go_enter Tryd.func56, Tryd.ntmps56
  go_wp2_with (refine wpList_load_row rfl 50 _ rfl w.heap.size rfl 50 _ (0, 0) _ bx.row Tryd.underlying50 rfl hi ?_)
  refine (taken_any _ key s t l vr r _ (hk.below bx.bel) hl (hr.below bx.bel) (ht.below hpos bx.bel)).mono ?_
  rintro e w1 ⟨v2, n2, rfl, s2, b1⟩
  rw [HE.out]
  replace bx := bx.step b1
  clear b1
  have hi4 := chInfo (k := .slice none 0 0) (s := 0) (t := 0) noB_length
  have ho4 := chA_one (Sl.nil w none) 0 0 noB
  go_wp2_with (refine wpList_store_row rfl 50 _ _ rfl (w.heap.size + 1) (chA (.slice none 0 0) 0 0 noB) rfl rfl 50 _ bx.res hi4 rfl ho4 ?_)
  have r2 := setRow_heap w1 (w.heap.size + 1) _ (chA (.slice none 0 0) 0 0 noB) 50 _ bx.res
  exact bodyPost_ret (results_row3 rfl _ _ (w.heap.size + 1) 50 _ (0, 0) _ rfl r2 Tryd.underlying50 rfl hi4) rfl ⟨rfl, below_setRow bx.bel (by omega) _⟩

theorem chA_setSeen (k : Value) (s t : Int) (l : List Bool) (i : Nat) (x : Bool) : (chA k s t l).setIfInBounds (3 + i) (.bool x) = chA k s t (l.set i x) := by
  apply Array.ext'
  rw [Nat.add_comm]
  simp [chA, List.map_set]
theorem By.top {w W : World} {k : Value} {s t : Int} {l : List Bool} (h : By w W k s t l) (t' : Int) : By w (W.setCell ⟨w.heap.size, 2, none⟩ (.int .i64 t')) k s t' l :=
  ⟨by rw [heap_setCell_same _ _ _ _ _ _ h.row, chA_setTop], (heap_setCell_other _ _ _ _ (by simp)).trans h.res, h.bel.setCell (p := ⟨w.heap.size, 2, none⟩) (by simp) _⟩
theorem By.seen {w W : World} {k : Value} {s t : Int} {l : List Bool} (h : By w W k s t l) (i o : Nat) (ho : o = 3 + i) (x : Bool) (l' : List Bool) (hl' : l.set i x = l') : By w (W.setCell ⟨w.heap.size, o, none⟩ (.bool x)) k s t l' := by
  subst ho
  subst hl'
  exact ⟨by rw [heap_setCell_same _ _ _ _ _ _ h.row, chA_setSeen], (heap_setCell_other _ _ _ _ (by simp)).trans h.res, h.bel.setCell (p := ⟨w.heap.size, 3 + i, none⟩) (by simp) _⟩
theorem By.drew {w W : World} {k : Value} {s t : Int} {l : List Bool} (h : By w W k s t l) : By w W.drew k s t l := ⟨h.row, h.res, h.bel.drew⟩
/-- the whole window is laid into the box -/
theorem By.laid {w W : World} {a : Option Addr} {n c : Nat} {s t : Int} {x0 x1 x2 x3 x4 x5 x6 x7 : Bool} (h : By w W (.slice a n c) s t [x0, x1, x2, x3, x4, x5, x6, x7]) (T : Int) (b0 b1 b2 b3 b4 b5 b6 b7 : Bool) :
    By w (((((((((W.setCell ⟨w.heap.size, 2, none⟩ (.int .i64 T)).setCell ⟨w.heap.size, 3, none⟩ (.bool b0)).setCell ⟨w.heap.size, 4, none⟩ (.bool b1)).setCell ⟨w.heap.size, 5, none⟩ (.bool b2)).setCell ⟨w.heap.size, 6, none⟩ (.bool b3)).setCell ⟨w.heap.size, 7, none⟩ (.bool b4)).setCell ⟨w.heap.size, 8, none⟩ (.bool b5)).setCell ⟨w.heap.size, 9, none⟩ (.bool b6)).setCell ⟨w.heap.size, 10, none⟩ (.bool b7)).drew (.slice a n c) s T [b0, b1, b2, b3, b4, b5, b6, b7] ∧ (∀ v n xs, W.ownsRow 0 5 1 v n xs → (((((((((W.setCell ⟨w.heap.size, 2, none⟩ (.int .i64 T)).setCell ⟨w.heap.size, 3, none⟩ (.bool b0)).setCell ⟨w.heap.size, 4, none⟩ (.bool b1)).setCell ⟨w.heap.size, 5, none⟩ (.bool b2)).setCell ⟨w.heap.size, 6, none⟩ (.bool b3)).setCell ⟨w.heap.size, 7, none⟩ (.bool b4)).setCell ⟨w.heap.size, 8, none⟩ (.bool b5)).setCell ⟨w.heap.size, 9, none⟩ (.bool b6)).setCell ⟨w.heap.size, 10, none⟩ (.bool b7)).drew.ownsRow 0 5 1 v n xs) ∧ ∀ v p, Sl W v p → Sl (((((((((W.setCell ⟨w.heap.size, 2, none⟩ (.int .i64 T)).setCell ⟨w.heap.size, 3, none⟩ (.bool b0)).setCell ⟨w.heap.size, 4, none⟩ (.bool b1)).setCell ⟨w.heap.size, 5, none⟩ (.bool b2)).setCell ⟨w.heap.size, 6, none⟩ (.bool b3)).setCell ⟨w.heap.size, 7, none⟩ (.bool b4)).setCell ⟨w.heap.size, 8, none⟩ (.bool b5)).setCell ⟨w.heap.size, 9, none⟩ (.bool b6)).setCell ⟨w.heap.size, 10, none⟩ (.bool b7)).drew v p := by
  have h0 := h.top T
  have h1 := h0.seen 0 3 rfl b0 [b0, x1, x2, x3, x4, x5, x6, x7] rfl
  have h2 := h1.seen 1 4 rfl b1 [b0, b1, x2, x3, x4, x5, x6, x7] rfl
  have h3 := h2.seen 2 5 rfl b2 [b0, b1, b2, x3, x4, x5, x6, x7] rfl
  have h4 := h3.seen 3 6 rfl b3 [b0, b1, b2, b3, x4, x5, x6, x7] rfl
  have h5 := h4.seen 4 7 rfl b4 [b0, b1, b2, b3, b4, x5, x6, x7] rfl
  have h6 := h5.seen 5 8 rfl b5 [b0, b1, b2, b3, b4, b5, x6, x7] rfl
  have h7 := h6.seen 6 9 rfl b6 [b0, b1, b2, b3, b4, b5, b6, x7] rfl
  have h8 := h7.seen 7 10 rfl b7 [b0, b1, b2, b3, b4, b5, b6, b7] rfl
  refine ⟨h8.drew, fun v n xs ho => ?_, fun v p hs => ?_⟩
  · exact (own_setBox (own_setBox (own_setBox (own_setBox (own_setBox (own_setBox (own_setBox (own_setBox (own_setBox ho h.row (by decide) 2 _) h0.row (by decide) 3 _) h1.row (by decide) 4 _) h2.row (by decide) 5 _) h3.row (by decide) 6 _) h4.row (by decide) 7 _) h5.row (by decide) 8 _) h6.row (by decide) 9 _) h7.row (by decide) 10 _).drew
  exact (((((((((hs.setBox h.row 2 _).setBox h0.row 3 _).setBox h1.row 4 _).setBox h2.row 5 _).setBox h3.row 6 _).setBox h4.row 7 _).setBox h5.row 8 _).setBox h6.row 9 _).setBox h7.row 10 _).drew

set_option maxHeartbeats 2000000 in
set_option maxRecDepth 100000 in
theorem take_ok (vk : Value) (key : List Int) (s t : Int) (l : List Bool) (vr : Value) (r : List Int) (w : World) (hk : Sl w vk key) (hl : l.length = 8) (hr : Sl w vr r) (ht : QTab w) (hE : takeE key s t l r = 0) (n : Int) (hn : numL (r.take 4) = n) :
    Calls Tryd.prog 56 #[.agg (chA vk s t l), vr] w fun e w' => ∃ v1, ∃ v2, e = .returned (.tuple #[.agg (chA v1 s (takT t n) (takS t l n)), v2, .int .i64 0]) ∧ Sl w' v1 key ∧ w'.ownsRow 0 5 1 v1 key.length (key.map (Value.int .u8)) ∧ Sl w' v2 (takeL key r) ∧ Below w.heap.size w w' := by
  have hpos := ht.pos
  have bx := By.new w vk s t l
  have hi := chInfo (k := vk) (s := s) (t := t) hl
  obtain ⟨hok, hr20, hr2020, hn1, hold, hop⟩ := takeE_ok hE
  rw [hn] at hn1 hold
  have hn0 : 0 ≤ n := by
    rw [← hn]
    exact (numL_range (by rw [List.length_take]; omega) (fun x hx => hr.byte x (List.mem_of_mem_take hx))).1
  have hn8 : t - 8 ≤ n := by
    by_cases h : n < t - 8
    · rw [oldB_low h] at hold; cases hold
    · omega
  have t0 := hok.t0
  have t1 := hok.t1
  have HE : Hid (takeE key s t l r = 0) := hE
  have HN : Hid (numL (r.take 4) = n) := hn
  obtain ⟨ak, ck, rfl⟩ := hk.shape
  generalize hnk : key.length = nk at hk hi bx ⊢
  have HNK : Hid (key.length = nk) := hnk
  clear hnk
  go_enter Tryd.func56, Tryd.ntmps56
  clear hE hok hn hold hop hr20 hr2020
  go_wp2_with (refine wpList_load_row rfl 50 _ rfl w.heap.size rfl 50 _ (0, 0) _ bx.row Tryd.underlying50 rfl hi ?_)
  refine (taken_any _ key s t l vr r _ (hk.below bx.bel) hl (hr.below bx.bel) (ht.below hpos bx.bel)).mono ?_
  rintro e w1 ⟨v2, n2, rfl, s2', b1⟩
  rw [HE.out]
  obtain ⟨hn2, s2⟩ := s2' HE.out
  rw [HN.out] at hn2
  subst hn2
  replace bx := bx.step b1
  clear b1 s2'
  go_wp2_with (refine wpList_load_row rfl 50 _ rfl w.heap.size rfl 50 _ (0, 0) _ bx.row Tryd.underlying50 rfl hi ?_)
  refine (windowOf_any _ s t l w1 hl).mono ?_
  rintro e w2 ⟨rfl, b2⟩
  replace bx := bx.step b2
  replace s2 := s2.below b2
  clear b2
  go_wp2_with fail
  refine (with_any t n2 l w2 hl t0 t1 hn8 hn0 hn1).mono ?_
  rintro e w3 ⟨rfl, b3⟩
  replace bx := bx.step b3
  replace s2 := s2.below b3
  clear b3
  have hSl := takS_length t l n2
  generalize hT : takT t n2 = T
  generalize hS : takS t l n2 = S at hSl
  have HT : Hid (takT t n2 = T) := hT
  have HS : Hid (takS t l n2 = S) := hS
  clear hT hS
  obtain ⟨b0, b1, b2, b3, b4, b5, b6, b7, rfl⟩ := eight S hSl
  simp only [wA, List.map]
  go_upto_region 5 with fail
  have g0 : (w3.alloc (.cells (wA T [b0, b1, b2, b3, b4, b5, b6, b7]) 99)).heap[w3.heap.size]? = some (.cells (wA T [b0, b1, b2, b3, b4, b5, b6, b7]) 99 (0, 0)) := heap_alloc_new _ _
  have b4' : Below w3.heap.size w3 (w3.alloc (.cells (wA T [b0, b1, b2, b3, b4, b5, b6, b7]) 99)) := (Below.refl _ _).alloc (Nat.le_refl _) _
  simp only [wA, List.map] at g0 b4'
  have hG := bx.lt
  replace bx := bx.step b4'
  replace s2 := s2.below b4'
  generalize w3.alloc (.cells #[.int .i64 T, .bool b0, .bool b1, .bool b2, .bool b3, .bool b4, .bool b5, .bool b6, .bool b7] 99) = w4 at g0 b4' bx s2 ⊢
  clear b4'
  generalize w3.heap.size = G at g0 hG ⊢
  have c0 := bx.c0
  have hGz : G < w4.heap.size := (Array.getElem?_eq_some_iff.1 g0).1
  go_wp2_with fail
  refine (clone_any _ key w4 (hk.below bx.bel)).mono ?_
  rintro e w5 ⟨v1, rfl, o1, b5'⟩
  replace bx := bx.step b5'
  replace s2 := s2.below b5'
  replace g0 := (b5'.block G hGz).trans g0
  have sk := Sl.ofOwns o1 hk.len hk.byte
  replace o1 := owns_lower o1 (Nat.zero_le _)
  clear b5' c0 hGz
  obtain ⟨a1, c1, hv1⟩ := sk.shape
  generalize hn1 : key.length = n1 at hv1 o1
  have HKN : Hid (key.length = n1) := hn1
  clear hn1
  subst hv1
  have c0 := bx.c0
  have f0 := bx.fr 0
  go_upto_region 6 with fail
  replace s2 := s2.setBox bx.row 0 (.slice a1 n1 c1)
  replace sk := sk.setBox bx.row 0 (.slice a1 n1 c1)
  replace o1 := own_setBox o1 bx.row (by decide) 0 (.slice a1 n1 c1)
  have g1 : (w5.setCell ⟨w.heap.size, 0, none⟩ (.slice a1 n1 c1)).heap[G]? = some (.cells (wA T [b0, b1, b2, b3, b4, b5, b6, b7]) 99 (0, 0)) := (heap_setCell_other _ _ _ _ (by simp; omega)).trans g0
  replace bx := bx.key (.slice a1 n1 c1)
  generalize w5.setCell ⟨w.heap.size, 0, none⟩ (.slice a1 n1 c1) = w6 at s2 sk o1 bx g1 ⊢
  clear c0 f0 g0
  have e1 : Below w6.heap.size w6 w6.drew := (Below.refl _ _).drew
  obtain ⟨x0, x1, x2, x3, x4, x5, x6, x7, rfl⟩ := eight l hl
  obtain ⟨c0, c1', c2, c3, c4, c5, c6, c7, c8, c9, c10⟩ := chA_cells bx.row
  obtain ⟨e0, e1', e2, e3, e4, e5, e6, e7, e8⟩ := wA_cells g1
  have f2 := bx.fr 2
  have f3 := bx.fr 3
  have f4 := bx.fr 4
  have f5 := bx.fr 5
  have f6 := bx.fr 6
  have f7 := bx.fr 7
  have f8 := bx.fr 8
  have f9 := bx.fr 9
  have f10 := bx.fr 10
  have hne : ¬ G = w.heap.size := by omega
  have hne' : ¬ w.heap.size = G := by omega
  go_region
  obtain ⟨by2, hO2, hS2⟩ := bx.laid T b0 b1 b2 b3 b4 b5 b6 b7
  replace s2 := hS2 _ _ s2
  replace sk := hS2 _ _ sk
  replace o1 := hO2 _ _ _ o1
  clear hS2 hO2 c0 c1' c2 c3 c4 c5 c6 c7 c8 c9 c10 e0 e1' e2 e3 e4 e5 e6 e7 e8 f2 f3 f4 f5 f6 f7 f8 f9 f10 bx g1 e1
  generalize (((((((((w6.setCell ⟨w.heap.size, 2, none⟩ (.int .i64 T)).setCell ⟨w.heap.size, 3, none⟩ (.bool b0)).setCell ⟨w.heap.size, 4, none⟩ (.bool b1)).setCell ⟨w.heap.size, 5, none⟩ (.bool b2)).setCell ⟨w.heap.size, 6, none⟩ (.bool b3)).setCell ⟨w.heap.size, 7, none⟩ (.bool b4)).setCell ⟨w.heap.size, 8, none⟩ (.bool b5)).setCell ⟨w.heap.size, 9, none⟩ (.bool b6)).setCell ⟨w.heap.size, 10, none⟩ (.bool b7)).drew = w7 at by2 s2 sk o1 ⊢
  have hi4 := chInfo (k := .slice a1 n1 c1) (s := s) (t := T) hSl
  have ho4 := chA_one sk s T [b0, b1, b2, b3, b4, b5, b6, b7]
  have hold : (chA (.slice none 0 0) 0 0 noB).size = (chA (.slice a1 n1 c1) s T [b0, b1, b2, b3, b4, b5, b6, b7]).size := rfl
  go_wp2_with (first
    | (refine wpList_load_row rfl 50 _ rfl w.heap.size rfl 50 _ (0, 0) _ by2.row Tryd.underlying50 rfl hi4 ?_)
    | (refine wpList_store_row rfl 50 _ _ rfl (w.heap.size + 1) _ rfl rfl 50 _ by2.res hi4 hold ho4 ?_))
  have r2 := setRow_heap w7 (w.heap.size + 1) _ (chA (.slice a1 n1 c1) s T [b0, b1, b2, b3, b4, b5, b6, b7]) 50 _ by2.res
  exact bodyPost_ret (results_row3 rfl _ _ (w.heap.size + 1) 50 _ (0, 0) _ rfl r2 Tryd.underlying50 rfl hi4) rfl ⟨.slice a1 n1 c1, v2, by rw [HT.out, HS.out]; rfl, sk.setRowBox by2.res _, by rw [← HNK.out, HKN.out]; exact own_setRowBox o1 by2.res (by decide) _, s2.setRowBox by2.res _, below_setRow by2.bel (by omega) _⟩
end Go.Proofs.YtakgfdbjgeopdaaDoor
/-
  New channels, and their cells.
-/
namespace Go.Proofs.YtakgfdbjgeopdaaDoor
open Go.RowKit
set_option linter.unusedVariables false

theorem chA_lit (k : Value) (s t : Int) (b0 b1 b2 b3 b4 b5 b6 b7 : Bool) : chA k s t [b0, b1, b2, b3, b4, b5, b6, b7] = #[k, .int .i64 s, .int .i64 t, .bool b0, .bool b1, .bool b2, .bool b3, .bool b4, .bool b5, .bool b6, .bool b7] := rfl
theorem chA_noB (k : Value) (s t : Int) : chA k s t noB = #[k, .int .i64 s, .int .i64 t, .bool false, .bool false, .bool false, .bool false, .bool false, .bool false, .bool false, .bool false] := rfl

/-- what New makes of a key that is long enough -/
theorem new_ok (vk : Value) (key : List Int) (w : World) (hk : Sl w vk key) (h32 : key.length = 32) :
    Calls Tryd.prog 55 #[vk] w fun e w' => ∃ v', e = .returned (.tuple #[.agg (chA v' 0 0 noB), .int .i64 0]) ∧ Sl w' v' key ∧ w'.ownsRow 0 5 1 v' key.length (key.map (Value.int .u8)) ∧ Below w.heap.size w w' := by
  refine (new_any vk key w hk).mono ?_
  rintro e w1 ⟨v', rfl, s1, b1⟩
  rw [if_pos h32] at s1 ⊢
  exact ⟨v', rfl, Sl.ofOwns s1 hk.len hk.byte, s1, b1⟩
end Go.Proofs.YtakgfdbjgeopdaaDoor
/-
  The walk of the number at a place of bytes.
-/
namespace Go.Proofs.YtakgfdbjgeopdaaDoor
open Go.RowKit
set_option linter.unusedVariables false

set_option maxRecDepth 100000 in
theorem Sl.fourAt {w : World} {a : Option Addr} {n cap : Nat} {l : List Int} (h : Sl w (.slice a n cap) l) (lo : Nat) (hhi : lo + 4 ≤ l.length) (li hj : Int) (hli : li = (lo : Int)) (hhj : hj = (lo : Int) + 4) :
    ∃ a' c', (∀ W, (Instr.slice 22 (.slice a n cap) (some (.int .i64 li)) (some (.int .i64 hj)) none).run Tryd.prog W = .ok (.slice a' 4 c') W) ∧ Sl w (.slice a' 4 c') ((l.take (lo + 4)).drop lo) := by
  subst hli
  subst hhj
  have hw := h.window lo (lo + 4) (by omega) hhi
  obtain ⟨⟨a', cap', e, hc, hn, h1⟩, hla, hba⟩ := h
  simp only [Value.slice.injEq] at e
  obtain ⟨rfl, rfl, rfl⟩ := e
  have e4 : lo + 4 - lo = 4 := by omega
  unfold sliced at hw
  rw [e4] at hw
  refine ⟨_, _, fun W => ?_, hw⟩
  rw [run_slice_lh (P := Tryd.prog) W 22 a _ cap Tryd.underlying22 .i64 .i64 _ _ (by omega) (by omega) (by omega)]
  have e : Tryd.prog.elem 22 = 5 := by kernel_rfl
  rw [e, size5w, show ((lo : Int) + 4).toNat = lo + 4 by omega, Int.toNat_natCast]
  simp [Result.andThen, sliced]

theorem or_byteO (x b : Int) (hx : 0 ≤ x ∧ x < 36028797018963968) (hb : 0 ≤ b ∧ b < 256) : bits .or .i64 (x * 256) b = x * 256 + b := by
  obtain ⟨x, rfl⟩ := Int.eq_ofNat_of_zero_le hx.1
  obtain ⟨y, rfl⟩ := Int.eq_ofNat_of_zero_le hb.1
  have e : (x : Int) * 256 = ((x * 256 : Nat) : Int) := by omega
  have key : (BitVec.ofInt 64 ((x * 256 : Nat) : Int) ||| BitVec.ofInt 64 (y : Int)).toNat = x * 256 + y := by
    rw [BitVec.toNat_or, BitVec.toNat_ofInt, BitVec.toNat_ofInt]
    have h1 : ((y : Int) % ((2 ^ 64 : Nat) : Int)).toNat = y := by omega
    have h2 : (((x * 256 : Nat) : Int) % ((2 ^ 64 : Nat) : Int)).toNat = 2 ^ 8 * x := by omega
    rw [h1, h2, ← Nat.two_pow_add_eq_or_of_lt (by omega : y < 2 ^ 8)]
    omega
  rw [e]
  show IntKind.i64.wrap ((BitVec.ofInt 64 ((x * 256 : Nat) : Int) ||| BitVec.ofInt 64 (y : Int)).toNat : Nat) = _
  rw [key, IntKind.wrap_i64]
  omega
/-- the number of the first k bytes -/
def numKO (h : List Int) : Nat → Int
  | 0 => 0
  | k + 1 => numKO h k * 256 + h.getD k 0
theorem numKO_range {h : List Int} (hb : ∀ x ∈ h, 0 ≤ x ∧ x < 256) (k : Nat) : 0 ≤ numKO h k ∧ numKO h k < 256 ^ k := by
  induction k with
  | zero => simp [numKO]
  | succ k ih =>
    have := getD_byte hb k
    rw [numKO, Int.pow_succ]
    omega
theorem numKO_four (l : List Int) (lo : Nat) (h : lo + 4 ≤ l.length) : numKO ((l.take (lo + 4)).drop lo) 4 = numA l lo := by
  show (((0 * 256 + ((l.take (lo + 4)).drop lo).getD 0 0) * 256 + ((l.take (lo + 4)).drop lo).getD 1 0) * 256 + ((l.take (lo + 4)).drop lo).getD 2 0) * 256 + ((l.take (lo + 4)).drop lo).getD 3 0 = _
  rw [getD_dropped, getD_dropped, getD_dropped, getD_dropped, getD_taken _ _ _ (by omega), getD_taken _ _ _ (by omega), getD_taken _ _ _ (by omega), getD_taken _ _ _ (by omega)]
  unfold numA
  rw [Nat.add_zero]
  omega
set_option maxHeartbeats 1000000 in
set_option maxRecDepth 100000 in
theorem numberAt_any (v : Value) (l : List Int) (lo : Nat) (w : World) (h : Sl w v l) (hl : lo + 4 ≤ l.length) (li : Int) (hli : li = (lo : Int)) :
    Calls Tryd.prog 59 #[v, .int .i64 li] w fun e w' => e = .returned (.int .i64 (numA l lo)) ∧ w' = w := by
  have HN : Hid (numKO ((l.take (lo + 4)).drop lo) 4 = numA l lo) := numKO_four l lo hl
  have hlen := h.len
  have i0 : 0 ≤ li := by omega
  have i1 : li ≤ 140737488351232 := by omega
  obtain ⟨a, c, rfl⟩ := h.shape
  obtain ⟨a2, c2, hr, hs⟩ := h.fourAt lo hl li (li + 4) hli (by omega)
  have HB : Hid (∀ x ∈ (l.take (lo + 4)).drop lo, 0 ≤ x ∧ x < 256) := hs.byte
  have HS : Hid (((l.take (lo + 4)).drop lo).length = 4) := by unfold Hid; rw [List.length_drop, List.length_take]; omega
  generalize (l.take (lo + 4)).drop lo = L at HN hs HB HS
  generalize l.length = N at hr hlen ⊢
  clear h hl hli hlen
  go_enter Tryd.func59, Tryd.ntmps59
  go_wp2_with fail
  go_loopw [5, 14] (fun v iv wr => ∃ j : Nat, j ≤ 4 ∧ iv = .int .i64 (j : Int) ∧ v = .int .i64 (numKO L j) ∧ wr = w) (fun _ iv _ => (4 - intOf iv).toNat)
  case atStart => exact ⟨0, by omega, rfl, rfl, rfl⟩
  case round =>
    obtain ⟨j, hj, rfl, rfl, rfl⟩ := hrel
    by_cases hj4 : j < 4
    · have hii : (j : Int) < 4 := by omega
      have hx := numKO_range HB.out j
      have hx2 : numKO L j < 16777216 := by
        have : (256 : Int) ^ j ≤ 256 ^ 3 := by
          rcases (by omega : j = 0 ∨ j = 1 ∨ j = 2 ∨ j = 3) with rfl | rfl | rfl | rfl <;> decide
        omega
      have hb := getD_byte HB.out j
      obtain ⟨bd, od, rfl, hbd, hc⟩ := hs.spotO j (by have := HS.out; omega)
      have hor := or_byteO (numKO L j) (L.getD j 0) ⟨hx.1, by omega⟩ hb
      have HK : Hid (numKO L j * 256 + L.getD j 0 = numKO L (j + 1)) := rfl
      have hx1 := hx.1
      clear hx hs hr
      generalize numKO L j = X at hx1 hx2 hor HK
      generalize L.getD j 0 = B at hb hc hor HK
      go_wp2
      go_roundw
      case rel => exact ⟨j + 1, by omega, by go_num, by rw [← HK.out], trivial⟩
      case measure => simp [intOf]; omega
    · obtain rfl : j = 4 := by omega
      rw [show ((4 : Nat) : Int) = 4 from rfl, HN.out]
      go_wp2
      go_ret
      exact ⟨rfl, rfl⟩
end Go.Proofs.YtakgfdbjgeopdaaDoor
