/-
  The walks of Send's and Take's records.
-/
import Derived.Deep.Cut
import Derived.Test.YtakgfdbjgeopdaaGreatDoorKo24
import Derived.Test.YtakgfdbjgeopdaaGreatDoorKo20
namespace Go.Proofs.YtakgfdbjgeopdaaGreatDoor
open Go.RowKit
set_option linter.unusedVariables false

/-- what the walks know of a channel's box behind a call -/
structure Bx (w W : World) (k : Value) (s t : Int) (l : List Bool) : Prop where
  row : W.heap[w.heap.size]? = some (.cells (chA k s t l) 55 (0, 0))
  bel : Below w.heap.size w W
theorem Bx.new (w : World) (k : Value) (s t : Int) (l : List Bool) : Bx w (w.alloc (.cells (chA k s t l) 55)) k s t l := ⟨heap_alloc_new _ _, (Below.refl _ _).alloc (Nat.le_refl _) _⟩
theorem Bx.lt {w W : World} {k : Value} {s t : Int} {l : List Bool} (h : Bx w W k s t l) : w.heap.size < W.heap.size := (Array.getElem?_eq_some_iff.1 h.row).1
theorem Bx.step {w W W' : World} {k : Value} {s t : Int} {l : List Bool} (h : Bx w W k s t l) (hb : Below W.heap.size W W') : Bx w W' k s t l :=
  ⟨(hb.block _ h.lt).trans h.row, h.bel.trans (hb.mono h.bel.size)⟩
theorem Bx.c0 {w W : World} {k : Value} {s t : Int} {l : List Bool} (h : Bx w W k s t l) : W.cell? ⟨w.heap.size, 0, none⟩ = some k := (cell_of_row _ _ 0 _ _ _ h.row).trans (chA_key k s t l)
theorem Bx.c1 {w W : World} {k : Value} {s t : Int} {l : List Bool} (h : Bx w W k s t l) : W.cell? ⟨w.heap.size, 1, none⟩ = some (.int .i64 s) := (cell_of_row _ _ 1 _ _ _ h.row).trans (chA_sent k s t l)
theorem Bx.c2 {w W : World} {k : Value} {s t : Int} {l : List Bool} (h : Bx w W k s t l) : W.cell? ⟨w.heap.size, 2, none⟩ = some (.int .i64 t) := (cell_of_row _ _ 2 _ _ _ h.row).trans (chA_top k s t l)

def sendR (key : List Int) (s t : Int) (l : List Bool) (p : List Int) : List Int := if sendE key s t l p = 0 then recL key s p else []

set_option maxHeartbeats 2000000 in
set_option maxRecDepth 100000 in
theorem sent_any (vk : Value) (key : List Int) (s t : Int) (l : List Bool) (vp : Value) (p : List Int) (w : World) (hk : Sl w vk key) (hl : l.length = 8) (hp : Sl w vp p) (ht : QTab w) :
    Calls Tryz.prog 47 #[.agg (chA vk s t l), vp] w fun e w' => ∃ v', e = .returned (.tuple #[v', .int .i64 (sendE key s t l p)]) ∧ w'.ownsRow 0 5 1 v' (sendR key s t l p).length ((sendR key s t l p).map (Value.int .u8)) ∧ Below w.heap.size w w' := by
  have hpos := ht.pos
  have bx := Bx.new w vk s t l
  obtain ⟨ap, cp, rfl⟩ := hp.shape
  have hpl := hp.len
  have hi := chInfo (k := vk) (s := s) (t := t) hl
  by_cases hok : OkC key s t l
  · have HC : Hid (checkE key s t l = 0) := checkE_ok hok
    go_enter Tryz.func47, Tryz.ntmps47
    go_wp2_with (refine wpList_load_row rfl 55 _ rfl w.heap.size rfl 55 _ (0, 0) _ bx.row Tryz.underlying55 rfl hi ?_)
    refine (check_any vk key s t l _ (hk.below bx.bel) hl).mono ?_
    rintro e w1 ⟨rfl, b1⟩
    replace bx := bx.step b1
    rw [HC.out]
    clear b1
    by_cases h2 : 2000 < p.length
    · have HE : Hid (sendE key s t l p = 1) := by unfold Hid sendE; rw [if_neg (fun h => h hok), if_pos h2]
      have HR : Hid (sendR key s t l p = []) := by unfold Hid sendR; rw [HE.out]; rfl
      have h2' : (2000 : Int) < (p.length : Int) := by omega
      go_wp2
      go_ret2
      exact ⟨.slice none 0 0, by rw [HE.out]; rfl, by rw [HR.out]; exact World.ownsRow_nil _ _ _ _, bx.bel⟩
    · have h2' : ¬ (2000 : Int) < (p.length : Int) := by omega
      have c1 := bx.c1
      by_cases h3 : s = 1073741824
      · have HE : Hid (sendE key s t l p = 8) := by unfold Hid sendE; rw [if_neg (fun h => h hok), if_neg h2, if_pos h3]
        have HR : Hid (sendR key s t l p = []) := by unfold Hid sendR; rw [HE.out]; rfl
        go_wp2
        go_ret2
        exact ⟨.slice none 0 0, by rw [HE.out]; rfl, by rw [HR.out]; exact World.ownsRow_nil _ _ _ _, bx.bel⟩
      · have HE : Hid (sendE key s t l p = 0) := by unfold Hid sendE; rw [if_neg (fun h => h hok), if_neg h2, if_neg h3]
        have HR : Hid (sendR key s t l p = recL key s p) := by unfold Hid sendR; rw [HE.out]; rfl
        have s0 := hok.s0
        have s1 : s < 1073741824 := by have := hok.s1; omega
        have HKL : Hid (key.length = 32) := hok.key
        go_wp2_with fail
        have bel1 := bx.bel
        refine (headOf_any s w1 s0 s1).mono ?_
        rintro e w2 ⟨vh, rfl, oh, b2⟩
        replace bx := bx.step b2
        clear c1
        have c0 := bx.c0
        have sh : Sl w2 vh (headL s) := Sl.ofOwns oh (by rw [headL_length]; omega) (headL_byte s)
        have hk2 := hk.below bx.bel
        have hp2 := hp.below bx.bel
        have ht2 := ht.below hpos bx.bel
        have hpos2 : 4 < w2.heap.size := by have := bx.lt; omega
        have HX : Hid (recL key s p = headL s ++ sealL key (nonceL (headL s)) (headL s) p) := rfl
        have hhl := headL_length s
        have HF : Hid (fits key (nonceL (headL s)) (headL s) = true) := fits_of hok.key (nonceL_length rfl) (by rw [headL_length]; omega)
        have h2n : p.length ≤ 2000 := by omega
        have bel2 := bx.bel
        generalize headL s = H at HX hhl HF sh oh
        have hd : Below w2.heap.size w2 w2.drew := (Below.refl _ _).drew
        have hlt := oh.lt
        have hzz : w.heap.size < w2.drew.heap.size := bx.lt
        clear hk hp ht hok
        go_wp2_with fail
        go_region_with (first
          | (go_at_call 90; refine (nonceOf_any _ H _ (sh.below hd) hhl).mono ?_; rintro e w3 ⟨vn, rfl, sn, b3⟩; have c3 := (b3.cell (p := ⟨w.heap.size, 0, none⟩) hzz).trans c0)
          | (go_at_call 89; refine (seal_ok vk vn _ _ key (nonceL H) H p _ ((hk2.below hd).below b3) sn ((sh.below hd).below b3) ((hp2.below hd).below b3) HF.out h2n ((ht2.below hpos2 hd).below hpos2 b3)).mono ?_; rintro e w4 ⟨vx, rfl, sx, b4⟩))
        all_goals
          have o4 := owns_below (owns_below oh.drew b3) b4
          have hl4 := o4.lt
          have d3 : Below w.heap.size w w3 := bel2.trans ((hd.trans b3).mono bel2.size)
          have d4 : Below w.heap.size w w4 := d3.trans (b4.mono d3.size)
          have hz4 : w1.heap.size ≤ w4.heap.size := Nat.le_trans b2.size (Nat.le_trans hd.size (Nat.le_trans b3.size b4.size))
          have hz1 : w.heap.size ≤ w1.heap.size := bel1.size
          have hxl := sealL_length key (nonceL H) H p
          clear bx oh sh hk2 hp2 ht2 hd c0 c3 sn b3 b4 hzz b2 bel2
          generalize sealL key (nonceL H) H p = X at HX hxl sx
          go_wp2_with (at_builtin; refine wpList_append_sl _ rfl _ _ 26 rfl w1.heap.size 5 Tryz.underlying26 info5 _ _ rfl rfl H X o4 sx (by omega) hz4 ?_)
          intro v5 w5 ho5 hg5
          have b5 : Below w.heap.size w w5 := d4.grown hg5 (by omega) (fun k hk => Nat.le_trans hz1 (hl4 k hk).1)
          have HO5 : Hid (w5.ownsRow w1.heap.size 5 1 v5 (H ++ X).length ((H ++ X).map (Value.int .u8))) := by
            unfold Hid
            simpa [hhl, hxl] using ho5
          clear ho5 hg5 o4
          go_wp2
          go_ret2
          refine ⟨v5, by rw [HE.out]; rfl, ?_, b5⟩
          rw [HR.out, HX.out]
          exact owns_lower HO5.out (Nat.zero_le _)
  · have HC : Hid (checkE key s t l = 5) := checkE_no hok
    have HE : Hid (sendE key s t l p = 5) := if_pos hok
    have HR : Hid (sendR key s t l p = []) := by unfold Hid sendR; rw [HE.out]; rfl
    go_enter Tryz.func47, Tryz.ntmps47
    go_wp2_with (refine wpList_load_row rfl 55 _ rfl w.heap.size rfl 55 _ (0, 0) _ bx.row Tryz.underlying55 rfl hi ?_)
    refine (check_any vk key s t l _ (hk.below bx.bel) hl).mono ?_
    rintro e w1 ⟨rfl, b1⟩
    replace bx := bx.step b1
    rw [HC.out]
    go_wp2
    go_ret2
    exact ⟨.slice none 0 0, by rw [HE.out]; rfl, by rw [HR.out]; exact World.ownsRow_nil _ _ _ _, bx.bel⟩
end Go.Proofs.YtakgfdbjgeopdaaGreatDoor
/-
  The walk of Send.
-/
namespace Go.Proofs.YtakgfdbjgeopdaaGreatDoor
open Go.RowKit
set_option linter.unusedVariables false

theorem chA_setKey (k k' : Value) (s t : Int) (l : List Bool) : (chA k s t l).setIfInBounds 0 k' = chA k' s t l := by apply Array.ext'; simp [chA]
theorem chA_setSent (k : Value) (s s' t : Int) (l : List Bool) : (chA k s t l).setIfInBounds 1 (.int .i64 s') = chA k s' t l := by apply Array.ext'; simp [chA]
theorem chA_setTop (k : Value) (s t t' : Int) (l : List Bool) : (chA k s t l).setIfInBounds 2 (.int .i64 t') = chA k s t' l := by apply Array.ext'; simp [chA]

/-- a channel's box and the result's cell, behind calls -/
structure By (w W : World) (k : Value) (s t : Int) (l : List Bool) : Prop where
  row : W.heap[w.heap.size]? = some (.cells (chA k s t l) 55 (0, 0))
  res : W.heap[w.heap.size + 1]? = some (.cells (chA (.slice none 0 0) 0 0 noB) 55 (0, 0))
  bel : Below w.heap.size w W
theorem By.new (w : World) (k : Value) (s t : Int) (l : List Bool) : By w ((w.alloc (.cells (chA k s t l) 55)).alloc (.cells (chA (.slice none 0 0) 0 0 noB) 55)) k s t l :=
  ⟨heap_alloc2_old _ _ _, heap_alloc2_new _ _ _, ((Below.refl _ _).alloc (Nat.le_refl _) _).alloc (by simp) _⟩
theorem By.lt {w W : World} {k : Value} {s t : Int} {l : List Bool} (h : By w W k s t l) : w.heap.size + 1 < W.heap.size := (Array.getElem?_eq_some_iff.1 h.res).1
theorem By.step {w W W' : World} {k : Value} {s t : Int} {l : List Bool} (h : By w W k s t l) (hb : Below W.heap.size W W') : By w W' k s t l :=
  ⟨(hb.block _ (by have := h.lt; omega)).trans h.row, (hb.block _ h.lt).trans h.res, h.bel.trans (hb.mono h.bel.size)⟩
theorem By.c0 {w W : World} {k : Value} {s t : Int} {l : List Bool} (h : By w W k s t l) : W.cell? ⟨w.heap.size, 0, none⟩ = some k := (cell_of_row _ _ 0 _ _ _ h.row).trans (chA_key k s t l)
theorem By.c1 {w W : World} {k : Value} {s t : Int} {l : List Bool} (h : By w W k s t l) : W.cell? ⟨w.heap.size, 1, none⟩ = some (.int .i64 s) := (cell_of_row _ _ 1 _ _ _ h.row).trans (chA_sent k s t l)
theorem By.fr {w W : World} {k : Value} {s t : Int} {l : List Bool} (h : By w W k s t l) (i : Nat) : W.frozen? ⟨w.heap.size, i, none⟩ = false := frozen_of_row _ _ i _ _ h.row
theorem By.key {w W : World} {k : Value} {s t : Int} {l : List Bool} (h : By w W k s t l) (k' : Value) : By w (W.setCell ⟨w.heap.size, 0, none⟩ k') k' s t l :=
  ⟨by rw [heap_setCell_same _ _ _ _ _ _ h.row, chA_setKey], (heap_setCell_other _ _ _ _ (by simp)).trans h.res, h.bel.setCell (p := ⟨w.heap.size, 0, none⟩) (by simp) _⟩
theorem By.sent {w W : World} {k : Value} {s t : Int} {l : List Bool} (h : By w W k s t l) (s' : Int) : By w (W.setCell ⟨w.heap.size, 1, none⟩ (.int .i64 s')) k s' t l :=
  ⟨by rw [heap_setCell_same _ _ _ _ _ _ h.row, chA_setSent], (heap_setCell_other _ _ _ _ (by simp)).trans h.res, h.bel.setCell (p := ⟨w.heap.size, 1, none⟩) (by simp) _⟩
theorem Sl.keepBut {w w' : World} {v : Value} {l : List Int} (h : Sl w v l) (B : Nat) (hn : ∀ i x, w.cell? ⟨B, i, none⟩ ≠ some (.int .u8 x)) (hz : w.heap.size ≤ w'.heap.size) (hk : ∀ k, k ≠ B → w'.heap[k]? = w.heap[k]?) : Sl w' v l := by
  obtain ⟨⟨a, cap, rfl, hc, hnn, h1⟩, h2, h3⟩ := h
  refine ⟨⟨a, cap, rfl, hc, hnn, ?_⟩, h2, h3⟩
  rcases h1 with h1 | ⟨b, off, ha, hbs, hcell⟩
  · exact .inl h1
  · refine .inr ⟨b, off, ha, Nat.lt_of_lt_of_le hbs hz, fun i hi => ?_⟩
    have hb : b ≠ B := by
      rintro rfl
      exact hn _ _ (hcell i hi)
    rw [← hcell i hi]
    exact World.cell?_of_block (w := w) (hk b hb)
/-- a channel's cells are no bytes -/
theorem chA_nobyte {W : World} {B : Nat} {a : Option Addr} {n c : Nat} {s t : Int} {l : List Bool} {ty : TypeId} {fr : Nat × Nat} (h : W.heap[B]? = some (.cells (chA (.slice a n c) s t l) ty fr)) : ∀ i x, W.cell? ⟨B, i, none⟩ ≠ some (.int .u8 x) := by
  intro i x hc
  rw [cell_of_row _ _ i _ _ _ h] at hc
  have hm := Array.mem_of_getElem? hc
  simp [chA] at hm
theorem Sl.setBox {W : World} {v : Value} {p : List Int} (h : Sl W v p) {B : Nat} {a : Option Addr} {n c : Nat} {s t : Int} {l : List Bool} {ty : TypeId} {fr : Nat × Nat} (hr : W.heap[B]? = some (.cells (chA (.slice a n c) s t l) ty fr)) (i : Nat) (u : Value) : Sl (W.setCell ⟨B, i, none⟩ u) v p :=
  h.keepBut B (chA_nobyte hr) (by simp [World.setCell]) fun k hk => heap_setCell_other _ _ _ _ (by simpa using hk)
theorem Sl.setRowBox {W : World} {v : Value} {p : List Int} (h : Sl W v p) {B : Nat} {a : Option Addr} {n c : Nat} {s t : Int} {l : List Bool} {ty : TypeId} {fr : Nat × Nat} (hr : W.heap[B]? = some (.cells (chA (.slice a n c) s t l) ty fr)) (cs : Array Value) : Sl (W.setRow B cs) v p :=
  h.keepBut B (chA_nobyte hr) (by simp [World.setRow]) fun k hk => setRow_other _ _ _ _ hk

/-- a row of bytes is no variable of another type -/
theorem own_ne_box {W : World} {v : Value} {n : Nat} {xs : List Value} (h : W.ownsRow 0 5 1 v n xs) {B : Nat} {A : Array Value} {ty : TypeId} {fr : Nat × Nat} (hr : W.heap[B]? = some (.cells A ty fr)) (hty : ty ≠ 5) : ∀ k, v.ownBlock = some k → k ≠ B := by
  intro k hk hkB
  subst hkB
  rcases h.2 with ⟨rfl, _⟩ | ⟨g, cap, cur, rfl, _, hg, _⟩
  · simp [Value.ownBlock] at hk
  · simp only [Value.ownBlock, Option.some.injEq] at hk
    subst hk
    rw [hg] at hr
    simp only [Option.some.injEq, Obj.cells.injEq] at hr
    exact hty hr.2.1.symm
theorem own_setBox {W : World} {v : Value} {n : Nat} {xs : List Value} (h : W.ownsRow 0 5 1 v n xs) {B : Nat} {A : Array Value} {ty : TypeId} {fr : Nat × Nat} (hr : W.heap[B]? = some (.cells A ty fr)) (hty : ty ≠ 5) (i : Nat) (u : Value) : (W.setCell ⟨B, i, none⟩ u).ownsRow 0 5 1 v n xs :=
  owns_keepH h fun k hk => heap_setCell_other _ _ _ _ (by simpa using own_ne_box h hr hty k hk)
theorem own_setRowBox {W : World} {v : Value} {n : Nat} {xs : List Value} (h : W.ownsRow 0 5 1 v n xs) {B : Nat} {A : Array Value} {ty : TypeId} {fr : Nat × Nat} (hr : W.heap[B]? = some (.cells A ty fr)) (hty : ty ≠ 5) (cs : Array Value) : (W.setRow B cs).ownsRow 0 5 1 v n xs :=
  owns_keepH h fun k hk => setRow_other _ _ _ _ (own_ne_box h hr hty k hk)

theorem sendE_ok {key : List Int} {s t : Int} {l : List Bool} {p : List Int} (h : sendE key s t l p = 0) : OkC key s t l ∧ p.length ≤ 2000 ∧ s < 1073741824 := by
  unfold sendE at h
  by_cases h1 : OkC key s t l
  · rw [if_neg (fun h => h h1)] at h
    by_cases h2 : 2000 < p.length
    · rw [if_pos h2] at h; omega
    · rw [if_neg h2] at h
      by_cases h3 : s = 1073741824
      · rw [if_pos h3] at h; omega
      · exact ⟨h1, by omega, by have := h1.s1; omega⟩
  · rw [if_pos h1] at h; omega
theorem sendE_of {key : List Int} {s t : Int} {l : List Bool} {p : List Int} (h1 : OkC key s t l) (h2 : p.length ≤ 2000) (h3 : s < 1073741824) : sendE key s t l p = 0 := by
  unfold sendE
  rw [if_neg (fun h => h h1), if_neg (by omega), if_neg (by omega)]

set_option maxHeartbeats 2000000 in
set_option maxRecDepth 100000 in
theorem send_ok (vk : Value) (key : List Int) (s t : Int) (l : List Bool) (vp : Value) (p : List Int) (w : World) (hk : Sl w vk key) (hl : l.length = 8) (hp : Sl w vp p) (ht : QTab w) (hE : sendE key s t l p = 0) :
    Calls Tryz.prog 20 #[.agg (chA vk s t l), vp] w fun e w' => ∃ v1, ∃ v2, e = .returned (.tuple #[.agg (chA v1 (s + 1) t l), v2, .int .i64 0]) ∧ Sl w' v1 key ∧ w'.ownsRow 0 5 1 v1 key.length (key.map (Value.int .u8)) ∧ w'.ownsRow 0 5 1 v2 (recL key s p).length ((recL key s p).map (Value.int .u8)) ∧ Below w.heap.size w w' := by
  have hpos := ht.pos
  have bx := By.new w vk s t l
  have hi := chInfo (k := vk) (s := s) (t := t) hl
  obtain ⟨hok, _, s1⟩ := sendE_ok hE
  have s0 := hok.s0
  have HE : Hid (sendE key s t l p = 0) := hE
  have HR : Hid (sendR key s t l p = recL key s p) := if_pos hE
  obtain ⟨ak, ck, rfl⟩ := hk.shape
  have HKL : Hid (key.length = 32) := hok.key
  generalize hnk : key.length = nk at hk hi bx ⊢
  have HNK : Hid (key.length = nk) := hnk
  clear hnk
  go_enter Tryz.func20, Tryz.ntmps20
  clear hE hok
  go_wp2_with (refine wpList_load_row rfl 55 _ rfl w.heap.size rfl 55 _ (0, 0) _ bx.row Tryz.underlying55 rfl hi ?_)
  refine (sent_any _ key s t l vp p _ (hk.below bx.bel) hl (hp.below bx.bel) (ht.below hpos bx.bel)).mono ?_
  rintro e w1 ⟨v2, rfl, s2, b1⟩
  rw [HE.out]
  rw [HR.out] at s2
  replace bx := bx.step b1
  have c0 := bx.c0
  clear b1
  go_wp2_with fail
  refine (clone_any _ key w1 (hk.below bx.bel)).mono ?_
  rintro e w2 ⟨v1, rfl, o1, b2⟩
  have hz1 := bx.lt
  replace bx := bx.step b2
  replace s2 := owns_below s2 b2
  have sk := Sl.ofOwns o1 hk.len hk.byte
  replace o1 := owns_lower o1 (Nat.zero_le _)
  clear b2 c0
  obtain ⟨a1, c1, hv1⟩ := sk.shape
  generalize hn1 : key.length = n1 at hv1 o1
  have HN : Hid (key.length = n1) := hn1
  clear hn1
  subst hv1
  have c0 := bx.c0
  have f0 := bx.fr 0
  go_upto_region 5 with fail
  replace s2 := own_setBox s2 bx.row (by decide) 0 (.slice a1 n1 c1)
  replace o1 := own_setBox o1 bx.row (by decide) 0 (.slice a1 n1 c1)
  replace sk := sk.setBox bx.row 0 (.slice a1 n1 c1)
  replace bx := bx.key (.slice a1 n1 c1)
  generalize w2.setCell ⟨w.heap.size, 0, none⟩ (.slice a1 n1 c1) = w3 at s2 sk o1 bx ⊢
  clear c0 f0
  have c1' := bx.c1
  have f1 := bx.fr 1
  go_upto_region 6 with fail
  replace s2 := own_setBox s2 bx.row (by decide) 1 (.int .i64 (s + 1))
  replace o1 := own_setBox o1 bx.row (by decide) 1 (.int .i64 (s + 1))
  replace sk := sk.setBox bx.row 1 (.int .i64 (s + 1))
  replace bx := bx.sent (s + 1)
  generalize w3.setCell ⟨w.heap.size, 1, none⟩ (.int .i64 (s + 1)) = w4 at s2 sk o1 bx ⊢
  clear c1' f1
  have hi4 := chInfo (k := .slice a1 n1 c1) (s := s + 1) (t := t) hl
  have ho4 := chA_one sk (s + 1) t l
  have hold : (chA (.slice none 0 0) 0 0 noB).size = (chA (.slice a1 n1 c1) (s + 1) t l).size := by rw [chA_size, chA_size, hl]; rfl
  go_wp2_with (first
    | (refine wpList_load_row rfl 55 _ rfl w.heap.size rfl 55 _ (0, 0) _ bx.row Tryz.underlying55 rfl hi4 ?_)
    | (refine wpList_store_row rfl 55 _ _ rfl (w.heap.size + 1) _ rfl rfl 55 _ bx.res hi4 hold ho4 ?_))
  have r2 := setRow_heap w4 (w.heap.size + 1) _ (chA (.slice a1 n1 c1) (s + 1) t l) 55 _ bx.res
  exact bodyPost_ret (results_row3 rfl _ _ (w.heap.size + 1) 55 _ (0, 0) _ rfl r2 Tryz.underlying55 rfl hi4) rfl ⟨.slice a1 n1 c1, v2, rfl, sk.setRowBox bx.res _, by rw [← HNK.out, HN.out]; exact own_setRowBox o1 bx.res (by decide) _, own_setRowBox s2 bx.res (by decide) _, below_setRow bx.bel (by omega) _⟩

set_option maxHeartbeats 2000000 in
set_option maxRecDepth 100000 in
theorem send_no (vk : Value) (key : List Int) (s t : Int) (l : List Bool) (vp : Value) (p : List Int) (w : World) (hk : Sl w vk key) (hl : l.length = 8) (hp : Sl w vp p) (ht : QTab w) (E : Int) (hE : sendE key s t l p = E) (hE0 : E ≠ 0) :
    Calls Tryz.prog 20 #[.agg (chA vk s t l), vp] w fun e w' => e = .returned (.tuple #[.agg (chA (.slice none 0 0) 0 0 noB), .slice none 0 0, .int .i64 E]) ∧ Below w.heap.size w w' := by
  have hpos := ht.pos
  have bx := By.new w vk s t l
  have hi := chInfo (k := vk) (s := s) (t := t) hl
  have HE : Hid (sendE key s t l p = E) := hE
  clear hE
  go_enter Tryz.func20, Tryz.ntmps20
  go_wp2_with (refine wpList_load_row rfl 55 _ rfl w.heap.size rfl 55 _ (0, 0) _ bx.row Tryz.underlying55 rfl hi ?_)
  refine (sent_any _ key s t l vp p _ (hk.below bx.bel) hl (hp.below bx.bel) (ht.below hpos bx.bel)).mono ?_
  rintro e w1 ⟨v2, rfl, s2, b1⟩
  rw [HE.out]
  replace bx := bx.step b1
  clear b1
  have hi4 := chInfo (k := .slice none 0 0) (s := 0) (t := 0) noB_length
  have ho4 := chA_one (Sl.nil w none) 0 0 noB
  go_wp2_with (refine wpList_store_row rfl 55 _ _ rfl (w.heap.size + 1) (chA (.slice none 0 0) 0 0 noB) rfl rfl 55 _ bx.res hi4 rfl ho4 ?_)
  have r2 := setRow_heap w1 (w.heap.size + 1) _ (chA (.slice none 0 0) 0 0 noB) 55 _ bx.res
  exact bodyPost_ret (results_row3 rfl _ _ (w.heap.size + 1) 55 _ (0, 0) _ rfl r2 Tryz.underlying55 rfl hi4) rfl ⟨rfl, below_setRow bx.bel (by omega) _⟩
end Go.Proofs.YtakgfdbjgeopdaaGreatDoor
