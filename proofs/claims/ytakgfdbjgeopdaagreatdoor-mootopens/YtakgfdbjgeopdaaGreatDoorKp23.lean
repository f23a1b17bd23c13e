/-
  The walk of Send.
-/
import Derived.Deep.Cut
import Derived.Test.YtakgfdbjgeopdaaGreatDoorKp22
import Derived.Test.YtakgfdbjgeopdaaGreatDoorKp9
namespace Go.Proofs.YtakgfdbjgeopdaaGreatDoor
open Go.RowKit
set_option linter.unusedVariables false

theorem chA_setKey (k k' : Value) (s t : Int) (l : List Bool) : (chA k s t l).setIfInBounds 0 k' = chA k' s t l := by apply Array.ext'; simp [chA]
theorem chA_setSent (k : Value) (s s' t : Int) (l : List Bool) : (chA k s t l).setIfInBounds 1 (.int .i64 s') = chA k s' t l := by apply Array.ext'; simp [chA]
theorem chA_setTop (k : Value) (s t t' : Int) (l : List Bool) : (chA k s t l).setIfInBounds 2 (.int .i64 t') = chA k s t' l := by apply Array.ext'; simp [chA]

/-- a channel's box and the result's cell, behind calls -/
structure By (w W : World) (k : Value) (s t : Int) (l : List Bool) : Prop where
  row : W.heap[w.heap.size]? = some (.cells (chA k s t l) 55 (0, 0))
  res : W.heap[w.heap.size + 1]? = some (.cells (chA (.slice none 0 0) 0 0 noB) 55 (0, 0))
  bel : Below w.heap.size w W
theorem By.new (w : World) (k : Value) (s t : Int) (l : List Bool) : By w ((w.alloc (.cells (chA k s t l) 55)).alloc (.cells (chA (.slice none 0 0) 0 0 noB) 55)) k s t l :=
  ⟨heap_alloc2_old _ _ _, heap_alloc2_new _ _ _, ((Below.refl _ _).alloc (Nat.le_refl _) _).alloc (by simp) _⟩
theorem By.lt {w W : World} {k : Value} {s t : Int} {l : List Bool} (h : By w W k s t l) : w.heap.size + 1 < W.heap.size := (Array.getElem?_eq_some_iff.1 h.res).1
theorem By.step {w W W' : World} {k : Value} {s t : Int} {l : List Bool} (h : By w W k s t l) (hb : Below W.heap.size W W') : By w W' k s t l :=
  ⟨(hb.block _ (by have := h.lt; omega)).trans h.row, (hb.block _ h.lt).trans h.res, h.bel.trans (hb.mono h.bel.size)⟩
theorem By.c0 {w W : World} {k : Value} {s t : Int} {l : List Bool} (h : By w W k s t l) : W.cell? ⟨w.heap.size, 0, none⟩ = some k := (cell_of_row _ _ 0 _ _ _ h.row).trans (chA_key k s t l)
theorem By.c1 {w W : World} {k : Value} {s t : Int} {l : List Bool} (h : By w W k s t l) : W.cell? ⟨w.heap.size, 1, none⟩ = some (.int .i64 s) := (cell_of_row _ _ 1 _ _ _ h.row).trans (chA_sent k s t l)
theorem By.fr {w W : World} {k : Value} {s t : Int} {l : List Bool} (h : By w W k s t l) (i : Nat) : W.frozen? ⟨w.heap.size, i, none⟩ = false := frozen_of_row _ _ i _ _ h.row
theorem By.key {w W : World} {k : Value} {s t : Int} {l : List Bool} (h : By w W k s t l) (k' : Value) : By w (W.setCell ⟨w.heap.size, 0, none⟩ k') k' s t l :=
  ⟨by rw [heap_setCell_same _ _ _ _ _ _ h.row, chA_setKey], (heap_setCell_other _ _ _ _ (by simp)).trans h.res, h.bel.setCell (p := ⟨w.heap.size, 0, none⟩) (by simp) _⟩
theorem By.sent {w W : World} {k : Value} {s t : Int} {l : List Bool} (h : By w W k s t l) (s' : Int) : By w (W.setCell ⟨w.heap.size, 1, none⟩ (.int .i64 s')) k s' t l :=
  ⟨by rw [heap_setCell_same _ _ _ _ _ _ h.row, chA_setSent], (heap_setCell_other _ _ _ _ (by simp)).trans h.res, h.bel.setCell (p := ⟨w.heap.size, 1, none⟩) (by simp) _⟩
theorem Sl.keepBut {w w' : World} {v : Value} {l : List Int} (h : Sl w v l) (B : Nat) (hn : ∀ i x, w.cell? ⟨B, i, none⟩ ≠ some (.int .u8 x)) (hz : w.heap.size ≤ w'.heap.size) (hk : ∀ k, k ≠ B → w'.heap[k]? = w.heap[k]?) : Sl w' v l := by
  obtain ⟨⟨a, cap, rfl, hc, hnn, h1⟩, h2, h3⟩ := h
  refine ⟨⟨a, cap, rfl, hc, hnn, ?_⟩, h2, h3⟩
  rcases h1 with h1 | ⟨b, off, ha, hbs, hcell⟩
  · exact .inl h1
  · refine .inr ⟨b, off, ha, Nat.lt_of_lt_of_le hbs hz, fun i hi => ?_⟩
    have hb : b ≠ B := by
      rintro rfl
      exact hn _ _ (hcell i hi)
    rw [← hcell i hi]
    exact World.cell?_of_block (w := w) (hk b hb)
/-- a channel's cells are no bytes -/
theorem chA_nobyte {W : World} {B : Nat} {a : Option Addr} {n c : Nat} {s t : Int} {l : List Bool} {ty : TypeId} {fr : Nat × Nat} (h : W.heap[B]? = some (.cells (chA (.slice a n c) s t l) ty fr)) : ∀ i x, W.cell? ⟨B, i, none⟩ ≠ some (.int .u8 x) := by
  intro i x hc
  rw [cell_of_row _ _ i _ _ _ h] at hc
  have hm := Array.mem_of_getElem? hc
  simp [chA] at hm
theorem Sl.setBox {W : World} {v : Value} {p : List Int} (h : Sl W v p) {B : Nat} {a : Option Addr} {n c : Nat} {s t : Int} {l : List Bool} {ty : TypeId} {fr : Nat × Nat} (hr : W.heap[B]? = some (.cells (chA (.slice a n c) s t l) ty fr)) (i : Nat) (u : Value) : Sl (W.setCell ⟨B, i, none⟩ u) v p :=
  h.keepBut B (chA_nobyte hr) (by simp [World.setCell]) fun k hk => heap_setCell_other _ _ _ _ (by simpa using hk)
theorem Sl.setRowBox {W : World} {v : Value} {p : List Int} (h : Sl W v p) {B : Nat} {a : Option Addr} {n c : Nat} {s t : Int} {l : List Bool} {ty : TypeId} {fr : Nat × Nat} (hr : W.heap[B]? = some (.cells (chA (.slice a n c) s t l) ty fr)) (cs : Array Value) : Sl (W.setRow B cs) v p :=
  h.keepBut B (chA_nobyte hr) (by simp [World.setRow]) fun k hk => setRow_other _ _ _ _ hk

/-- a row of bytes is no variable of another type -/
theorem own_ne_box {W : World} {v : Value} {n : Nat} {xs : List Value} (h : W.ownsRow 0 5 1 v n xs) {B : Nat} {A : Array Value} {ty : TypeId} {fr : Nat × Nat} (hr : W.heap[B]? = some (.cells A ty fr)) (hty : ty ≠ 5) : ∀ k, v.ownBlock = some k → k ≠ B := by
  intro k hk hkB
  subst hkB
  rcases h.2 with ⟨rfl, _⟩ | ⟨g, cap, cur, rfl, _, hg, _⟩
  · simp [Value.ownBlock] at hk
  · simp only [Value.ownBlock, Option.some.injEq] at hk
    subst hk
    rw [hg] at hr
    simp only [Option.some.injEq, Obj.cells.injEq] at hr
    exact hty hr.2.1.symm
theorem own_setBox {W : World} {v : Value} {n : Nat} {xs : List Value} (h : W.ownsRow 0 5 1 v n xs) {B : Nat} {A : Array Value} {ty : TypeId} {fr : Nat × Nat} (hr : W.heap[B]? = some (.cells A ty fr)) (hty : ty ≠ 5) (i : Nat) (u : Value) : (W.setCell ⟨B, i, none⟩ u).ownsRow 0 5 1 v n xs :=
  owns_keepH h fun k hk => heap_setCell_other _ _ _ _ (by simpa using own_ne_box h hr hty k hk)
theorem own_setRowBox {W : World} {v : Value} {n : Nat} {xs : List Value} (h : W.ownsRow 0 5 1 v n xs) {B : Nat} {A : Array Value} {ty : TypeId} {fr : Nat × Nat} (hr : W.heap[B]? = some (.cells A ty fr)) (hty : ty ≠ 5) (cs : Array Value) : (W.setRow B cs).ownsRow 0 5 1 v n xs :=
  owns_keepH h fun k hk => setRow_other _ _ _ _ (own_ne_box h hr hty k hk)

theorem sendE_ok {key : List Int} {s t : Int} {l : List Bool} {p : List Int} (h : sendE key s t l p = 0) : OkC key s t l ∧ p.length ≤ 2000 ∧ s < 1073741824 := by
  unfold sendE at h
  by_cases h1 : OkC key s t l
  · rw [if_neg (fun h => h h1)] at h
    by_cases h2 : 2000 < p.length
    · rw [if_pos h2] at h; omega
    · rw [if_neg h2] at h
      by_cases h3 : s = 1073741824
      · rw [if_pos h3] at h; omega
      · exact ⟨h1, by omega, by have := h1.s1; omega⟩
  · rw [if_pos h1] at h; omega
theorem sendE_of {key : List Int} {s t : Int} {l : List Bool} {p : List Int} (h1 : OkC key s t l) (h2 : p.length ≤ 2000) (h3 : s < 1073741824) : sendE key s t l p = 0 := by
  unfold sendE
  rw [if_neg (fun h => h h1), if_neg (by omega), if_neg (by omega)]

set_option maxHeartbeats 2000000 in
set_option maxRecDepth 100000 in
theorem send_ok (vk : Value) (key : List Int) (s t : Int) (l : List Bool) (vp : Value) (p : List Int) (w : World) (hk : Sl w vk key) (hl : l.length = 8) (hp : Sl w vp p) (ht : QTab w) (hE : sendE key s t l p = 0) :
    Calls Tryz.prog 20 #[.agg (chA vk s t l), vp] w fun e w' => ∃ v1, ∃ v2, e = .returned (.tuple #[.agg (chA v1 (s + 1) t l), v2, .int .i64 0]) ∧ Sl w' v1 key ∧ w'.ownsRow 0 5 1 v1 key.length (key.map (Value.int .u8)) ∧ w'.ownsRow 0 5 1 v2 (recL key s p).length ((recL key s p).map (Value.int .u8)) ∧ Below w.heap.size w w' := by
  have hpos := ht.pos
  have bx := By.new w vk s t l
  have hi := chInfo (k := vk) (s := s) (t := t) hl
  obtain ⟨hok, _, s1⟩ := sendE_ok hE
  have s0 := hok.s0
  have HE : Hid (sendE key s t l p = 0) := hE
  have HR : Hid (sendR key s t l p = recL key s p) := if_pos hE
  obtain ⟨ak, ck, rfl⟩ := hk.shape
  have HKL : Hid (key.length = 32) := hok.key
  generalize hnk : key.length = nk at hk hi bx ⊢
  have HNK : Hid (key.length = nk) := hnk
  clear hnk
  go_enter Tryz.func20, Tryz.ntmps20
  clear hE hok
  go_wp2_with (refine wpList_load_row rfl 55 _ rfl w.heap.size rfl 55 _ (0, 0) _ bx.row Tryz.underlying55 rfl hi ?_)
  refine (sent_any _ key s t l vp p _ (hk.below bx.bel) hl (hp.below bx.bel) (ht.below hpos bx.bel)).mono ?_
  rintro e w1 ⟨v2, rfl, s2, b1⟩
  rw [HE.out]
  rw [HR.out] at s2
  replace bx := bx.step b1
  have c0 := bx.c0
  clear b1
  go_wp2_with fail
  refine (clone_any _ key w1 (hk.below bx.bel)).mono ?_
  rintro e w2 ⟨v1, rfl, o1, b2⟩
  have hz1 := bx.lt
  replace bx := bx.step b2
  replace s2 := owns_below s2 b2
  have sk := Sl.ofOwns o1 hk.len hk.byte
  replace o1 := owns_lower o1 (Nat.zero_le _)
  clear b2 c0
  obtain ⟨a1, c1, hv1⟩ := sk.shape
  generalize hn1 : key.length = n1 at hv1 o1
  have HN : Hid (key.length = n1) := hn1
  clear hn1
  subst hv1
  have c0 := bx.c0
  have f0 := bx.fr 0
  go_upto_region 5 with fail
  replace s2 := own_setBox s2 bx.row (by decide) 0 (.slice a1 n1 c1)
  replace o1 := own_setBox o1 bx.row (by decide) 0 (.slice a1 n1 c1)
  replace sk := sk.setBox bx.row 0 (.slice a1 n1 c1)
  replace bx := bx.key (.slice a1 n1 c1)
  generalize w2.setCell ⟨w.heap.size, 0, none⟩ (.slice a1 n1 c1) = w3 at s2 sk o1 bx ⊢
  clear c0 f0
  have c1' := bx.c1
  have f1 := bx.fr 1
  go_upto_region 6 with fail
  replace s2 := own_setBox s2 bx.row (by decide) 1 (.int .i64 (s + 1))
  replace o1 := own_setBox o1 bx.row (by decide) 1 (.int .i64 (s + 1))
  replace sk := sk.setBox bx.row 1 (.int .i64 (s + 1))
  replace bx := bx.sent (s + 1)
  generalize w3.setCell ⟨w.heap.size, 1, none⟩ (.int .i64 (s + 1)) = w4 at s2 sk o1 bx ⊢
  clear c1' f1
  have hi4 := chInfo (k := .slice a1 n1 c1) (s := s + 1) (t := t) hl
  have ho4 := chA_one sk (s + 1) t l
  have hold : (chA (.slice none 0 0) 0 0 noB).size = (chA (.slice a1 n1 c1) (s + 1) t l).size := by rw [chA_size, chA_size, hl]; rfl
  go_wp2_with (first
    | (refine wpList_load_row rfl 55 _ rfl w.heap.size rfl 55 _ (0, 0) _ bx.row Tryz.underlying55 rfl hi4 ?_)
    | (refine wpList_store_row rfl 55 _ _ rfl (w.heap.size + 1) _ rfl rfl 55 _ bx.res hi4 hold ho4 ?_))
  have r2 := setRow_heap w4 (w.heap.size + 1) _ (chA (.slice a1 n1 c1) (s + 1) t l) 55 _ bx.res
  exact bodyPost_ret (results_row3 rfl _ _ (w.heap.size + 1) 55 _ (0, 0) _ rfl r2 Tryz.underlying55 rfl hi4) rfl ⟨.slice a1 n1 c1, v2, rfl, sk.setRowBox bx.res _, by rw [← HNK.out, HN.out]; exact own_setRowBox o1 bx.res (by decide) _, own_setRowBox s2 bx.res (by decide) _, below_setRow bx.bel (by omega) _⟩

set_option maxHeartbeats 2000000 in
set_option maxRecDepth 100000 in
theorem send_no (vk : Value) (key : List Int) (s t : Int) (l : List Bool) (vp : Value) (p : List Int) (w : World) (hk : Sl w vk key) (hl : l.length = 8) (hp : Sl w vp p) (ht : QTab w) (E : Int) (hE : sendE key s t l p = E) (hE0 : E ≠ 0) :
    Calls Tryz.prog 20 #[.agg (chA vk s t l), vp] w fun e w' => e = .returned (.tuple #[.agg (chA (.slice none 0 0) 0 0 noB), .slice none 0 0, .int .i64 E]) ∧ Below w.heap.size w w' := by
  have hpos := ht.pos
  have bx := By.new w vk s t l
  have hi := chInfo (k := vk) (s := s) (t := t) hl
  have HE : Hid (sendE key s t l p = E) := hE
  clear hE
  go_enter Tryz.func20, Tryz.ntmps20
  go_wp2_with (refine wpList_load_row rfl 55 _ rfl w.heap.size rfl 55 _ (0, 0) _ bx.row Tryz.underlying55 rfl hi ?_)
  refine (sent_any _ key s t l vp p _ (hk.below bx.bel) hl (hp.below bx.bel) (ht.below hpos bx.bel)).mono ?_
  rintro e w1 ⟨v2, rfl, s2, b1⟩
  rw [HE.out]
  replace bx := bx.step b1
  clear b1
  have hi4 := chInfo (k := .slice none 0 0) (s := 0) (t := 0) noB_length
  have ho4 := chA_one (Sl.nil w none) 0 0 noB
  go_wp2_with (refine wpList_store_row rfl 55 _ _ rfl (w.heap.size + 1) (chA (.slice none 0 0) 0 0 noB) rfl rfl 55 _ bx.res hi4 rfl ho4 ?_)
  have r2 := setRow_heap w1 (w.heap.size + 1) _ (chA (.slice none 0 0) 0 0 noB) 55 _ bx.res
  exact bodyPost_ret (results_row3 rfl _ _ (w.heap.size + 1) 55 _ (0, 0) _ rfl r2 Tryz.underlying55 rfl hi4) rfl ⟨rfl, below_setRow bx.bel (by omega) _⟩
end Go.Proofs.YtakgfdbjgeopdaaGreatDoor
/-
  The walk of a window with a number that is met.
-/
namespace Go.Proofs.YtakgfdbjgeopdaaGreatDoor
open Go.RowKit
set_option linter.unusedVariables false

set_option maxHeartbeats 1000000 in
set_option maxRecDepth 100000 in
theorem with_any (t n : Int) (l : List Bool) (w : World) (hl : l.length = 8) (t0 : 0 ≤ t) (t1 : t ≤ 1073741824) (n0 : t - 8 ≤ n) (n2 : 0 ≤ n) (n1 : n < 1073741824) :
    Calls Tryz.prog 146 #[.agg (wA t l), .int .i64 n] w fun e w' => e = .returned (.agg (wA (takT t n) (takS t l n))) ∧ Below w.heap.size w w' := by
  have e0 : ((w.alloc (.cells (wA t l) 190)).alloc (.cells (wA 0 noB) 190)).heap[w.heap.size]? = some (.cells (wA t l) 190 (0, 0)) := heap_alloc2_old _ _ _
  have e1 : ((w.alloc (.cells (wA t l) 190)).alloc (.cells (wA 0 noB) 190)).heap[w.heap.size + 1]? = some (.cells (wA 0 noB) 190 (0, 0)) := heap_alloc2_new _ _ _
  have bb : Below w.heap.size w ((w.alloc (.cells (wA t l) 190)).alloc (.cells (wA 0 noB) 190)) := ((Below.refl _ _).alloc (Nat.le_refl _) _).alloc (by simp) _
  have hz : ((w.alloc (.cells (wA t l) 190)).alloc (.cells (wA 0 noB) 190)).heap.size = w.heap.size + 1 + 1 := by simp
  have hiT := wInfo (t := t) hl
  have ct := (cell_of_row _ _ 0 _ _ _ e0).trans (wA_top t l)
  by_cases h1 : t ≤ n
  · obtain ⟨d, hd⟩ : ∃ d, d = min (n + 1 - t).toNat 8 := ⟨_, rfl⟩
    obtain ⟨HS', HT'⟩ := takS_high t n l hl h1 d hd
    have HS : Hid _ := HS'
    have HT : Hid (takT t n = n + 1) := HT'
    clear HS' HT'
    have hRl : (l.drop d ++ List.replicate d false).length = 8 := by simp; omega
    have HD : Hid (d = min (n + 1 - t).toNat 8) := hd
    clear hd
    go_enter Tryz.func146, Tryz.ntmps146
    go_upto_region 1 with fail
    generalize hWW : ((w.alloc (.cells (wA t l) 190)).alloc (.cells (wA 0 noB) 190)) = W at e0 e1 bb hz ct
    refine (congrArg (Code.wp _ _ _ _) hWW).mpr ?_
    clear hWW
    go_wp2_with (refine wpList_load_row rfl 190 _ rfl w.heap.size rfl 190 _ (0, 0) _ e0 Tryz.underlying190 rfl hiT ?_)
    refine (raised_any t (n + 1) l W hl t0 t1 (by omega) (by omega) d HD.out).mono ?_
    rintro e w1 ⟨rfl, b1⟩
    generalize l.drop d ++ List.replicate d false = R at HS hRl
    have a0 := (b1.block w.heap.size (by omega)).trans e0
    have a1 := (b1.block (w.heap.size + 1) (by omega)).trans e1
    have bd1 : Below w.heap.size w w1 := bb.trans (b1.mono (by omega))
    have hz1 : w.heap.size + 1 + 1 ≤ w1.heap.size := by have := b1.size; omega
    have hiR := wInfo (t := n + 1) hRl
    go_upto_region 3 with (refine wpList_store_row rfl 190 _ _ rfl w.heap.size _ rfl rfl 190 _ a0 hiR (by rw [wA_size, wA_size, hRl, hl]) (wA_one _ _) ?_)
    have f0 := setRow_heap w1 w.heap.size _ (wA (n + 1) R) 190 _ a0
    have f1 := (setRow_other w1 w.heap.size (w.heap.size + 1) (wA (n + 1) R) (by omega)).trans a1
    have bd2 : Below w.heap.size w (w1.setRow w.heap.size (wA (n + 1) R)) := below_setRow bd1 (Nat.le_refl _) _
    have hz2 : w.heap.size + 1 + 1 ≤ (w1.setRow w.heap.size (wA (n + 1) R)).heap.size := by have := (Array.getElem?_eq_some_iff.1 f1).1; omega
    generalize w1.setRow w.heap.size (wA (n + 1) R) = W2 at f0 f1 bd2 hz2 ⊢
    clear a0 a1 bd1 b1 e0 e1 bb ct hz hz1
    have hTb : n + 1 ≤ 1073741824 := by omega
    obtain ⟨i, hi, hni⟩ : ∃ i : Nat, i < 8 ∧ n - (n + 1 - 8) = (i : Int) := ⟨7, by omega, by omega⟩
    have HS2 : Hid (takS t l n = R.set i true) := by unfold Hid; rw [show i = 7 by omega]; exact HS.out
    clear HS
    have HS := HS2
    clear HS2
    have hTl : 0 ≤ n + 1 := by omega
    generalize n + 1 = T at HT f0 hTb hni hTl hiR
    go_wp2_with (refine wpList_load_row rfl 190 _ rfl w.heap.size rfl 190 _ (0, 0) _ f0 Tryz.underlying190 rfl (wInfo hRl) ?_)
    refine (lowest_any T R W2 hRl (by omega) (by omega)).mono ?_
    rintro e w3 ⟨rfl, b3⟩
    have g0 := (b3.block w.heap.size (by omega)).trans f0
    have g1 := (b3.block (w.heap.size + 1) (by omega)).trans f1
    have bd3 : Below w.heap.size w w3 := bd2.trans (b3.mono (by omega))
    have hz3 : w.heap.size + 1 < w3.heap.size := by have := b3.size; omega
    have ci := (cell_of_row _ _ (1 + i) _ _ _ g0).trans (wA_seen T R i (by omega))
    have fi := frozen_of_row _ _ (1 + i) _ _ g0
    have h0 := wA_store g0 i true
    have h1' : (w3.setCell ⟨w.heap.size, 1 + i, none⟩ (.bool true)).heap[w.heap.size + 1]? = some (.cells (wA 0 noB) 190 (0, 0)) := (heap_setCell_other _ _ _ _ (by simp)).trans g1
    have bd4 : Below w.heap.size w (w3.setCell ⟨w.heap.size, 1 + i, none⟩ (.bool true)) := bd3.setCell (p := ⟨w.heap.size, 1 + i, none⟩) (by simp) _
    have hsl : (R.set i true).length = 8 := by rw [List.length_set]; exact hRl
    have hw4 := wInfo (t := T) hsl
    have hii : (i : Int) < 8 := by omega
    generalize R.getD i false = c at ci
    clear f0 f1 g0 g1 b3 bd2 bd3
    go_wp2_with (first
      | (refine wpList_load_row rfl 190 _ rfl w.heap.size rfl 190 _ (0, 0) _ h0 Tryz.underlying190 rfl hw4 ?_)
      | (refine wpList_store_row rfl 190 _ _ rfl (w.heap.size + 1) _ rfl rfl 190 _ h1' hw4 (by rw [wA_size, wA_size, hsl]; rfl) (wA_one _ _) ?_))
    exact bodyPost_ret (v := .agg (wA T (R.set i true))) (results_cell_row rfl _ _ (w.heap.size + 1) 190 _ (0, 0) _ rfl (setRow_heap _ (w.heap.size + 1) _ _ 190 _ h1') Tryz.underlying190 rfl hw4) rfl ⟨by rw [HS.out, HT.out], below_setRow bd4 (by omega) _⟩
  · obtain ⟨i, hi, hni⟩ : ∃ i : Nat, i < 8 ∧ n - (t - 8) = (i : Int) := ⟨(n - (t - 8)).toNat, by omega, by omega⟩
    obtain ⟨HS', HT'⟩ := takS_low t n l hl (by omega) i hi (by omega)
    have HS : Hid (takS t l n = l.set i true) := HS'
    have HT : Hid (takT t n = t) := HT'
    clear HS' HT'
    go_enter Tryz.func146, Tryz.ntmps146
    go_upto_region 1 with fail
    generalize hWW : ((w.alloc (.cells (wA t l) 190)).alloc (.cells (wA 0 noB) 190)) = W at e0 e1 bb hz ct
    refine (congrArg (Code.wp _ _ _ _) hWW).mpr ?_
    clear hWW
    go_wp2_with (refine wpList_load_row rfl 190 _ rfl w.heap.size rfl 190 _ (0, 0) _ e0 Tryz.underlying190 rfl (wInfo hl) ?_)
    refine (lowest_any t l W hl (by omega) (by omega)).mono ?_
    rintro e w3 ⟨rfl, b3⟩
    have g0 := (b3.block w.heap.size (by omega)).trans e0
    have g1 := (b3.block (w.heap.size + 1) (by omega)).trans e1
    have bd3 : Below w.heap.size w w3 := bb.trans (b3.mono (by omega))
    have hz3 : w.heap.size + 1 < w3.heap.size := by have := b3.size; omega
    have ci := (cell_of_row _ _ (1 + i) _ _ _ g0).trans (wA_seen t l i (by omega))
    have fi := frozen_of_row _ _ (1 + i) _ _ g0
    have h0 := wA_store g0 i true
    have h1' : (w3.setCell ⟨w.heap.size, 1 + i, none⟩ (.bool true)).heap[w.heap.size + 1]? = some (.cells (wA 0 noB) 190 (0, 0)) := (heap_setCell_other _ _ _ _ (by simp)).trans g1
    have bd4 : Below w.heap.size w (w3.setCell ⟨w.heap.size, 1 + i, none⟩ (.bool true)) := bd3.setCell (p := ⟨w.heap.size, 1 + i, none⟩) (by simp) _
    have hsl : (l.set i true).length = 8 := by rw [List.length_set]; exact hl
    have hw4 := wInfo (t := t) hsl
    have hii : (i : Int) < 8 := by omega
    generalize l.getD i false = c at ci
    clear e0 e1 g0 g1 b3 bb bd3
    go_wp2_with (first
      | (refine wpList_load_row rfl 190 _ rfl w.heap.size rfl 190 _ (0, 0) _ h0 Tryz.underlying190 rfl hw4 ?_)
      | (refine wpList_store_row rfl 190 _ _ rfl (w.heap.size + 1) _ rfl rfl 190 _ h1' hw4 (by rw [wA_size, wA_size, hsl]; rfl) (wA_one _ _) ?_))
    exact bodyPost_ret (v := .agg (wA t (l.set i true))) (results_cell_row rfl _ _ (w.heap.size + 1) 190 _ (0, 0) _ rfl (setRow_heap _ (w.heap.size + 1) _ _ 190 _ h1') Tryz.underlying190 rfl hw4) rfl ⟨by rw [HS.out, HT.out], below_setRow bd4 (by omega) _⟩
end Go.Proofs.YtakgfdbjgeopdaaGreatDoor
/-
  The walk of the bytes of a record that is taken.
-/
namespace Go.Proofs.YtakgfdbjgeopdaaGreatDoor
open Go.RowKit
set_option linter.unusedVariables false

/-- what taking hands out -/
def TakeR (w' : World) (v' : Value) (n' : Int) (key : List Int) (s t : Int) (l : List Bool) (r : List Int) : Prop := takeE key s t l r = 0 → n' = numL (r.take 4) ∧ Sl w' v' (takeL key r)
theorem TakeR.no {w' : World} {v' : Value} {n' : Int} {key : List Int} {s t : Int} {l : List Bool} {r : List Int} {E : Int} (h : takeE key s t l r = E) (hE : E ≠ 0) : TakeR w' v' n' key s t l r := fun h0 => absurd (h.symm.trans h0) hE

set_option maxHeartbeats 4000000 in
set_option maxRecDepth 100000 in
theorem taken_any (vk : Value) (key : List Int) (s t : Int) (l : List Bool) (vr : Value) (r : List Int) (w : World) (hk : Sl w vk key) (hl : l.length = 8) (hr : Sl w vr r) (ht : QTab w) :
    Calls Tryz.prog 145 #[.agg (chA vk s t l), vr] w fun e w' => ∃ v', ∃ n', e = .returned (.tuple #[v', .int .i64 n', .int .i64 (takeE key s t l r)]) ∧ TakeR w' v' n' key s t l r ∧ Below w.heap.size w w' := by
  have hpos := ht.pos
  have bx := Bx.new w vk s t l
  obtain ⟨ar, cr, rfl⟩ := hr.shape
  have hrl := hr.len
  have hi := chInfo (k := vk) (s := s) (t := t) hl
  by_cases hok : OkC key s t l
  · have HC : Hid (checkE key s t l = 0) := checkE_ok hok
    go_enter Tryz.func145, Tryz.ntmps145
    go_wp2_with (refine wpList_load_row rfl 55 _ rfl w.heap.size rfl 55 _ (0, 0) _ bx.row Tryz.underlying55 rfl hi ?_)
    refine (check_any vk key s t l _ (hk.below bx.bel) hl).mono ?_
    rintro e w1 ⟨rfl, b1⟩
    replace bx := bx.step b1
    rw [HC.out]
    clear b1
    by_cases h2 : 2020 < r.length
    · have HE : Hid (takeE key s t l r = 1) := by unfold Hid takeE; rw [if_neg (fun h => h hok), if_pos h2]
      have h2' : (2020 : Int) < (r.length : Int) := by omega
      go_wp2
      go_ret3
      exact ⟨.slice none 0 0, 0, by rw [HE.out]; rfl, TakeR.no HE.out (by decide), bx.bel⟩
    · have h2' : ¬ (2020 : Int) < (r.length : Int) := by omega
      by_cases h3 : r.length < 20
      · have HE : Hid (takeE key s t l r = 13) := by unfold Hid takeE; rw [if_neg (fun h => h hok), if_neg h2, if_pos h3]
        have h3' : (r.length : Int) < 20 := by omega
        go_wp2
        go_ret3
        exact ⟨.slice none 0 0, 0, by rw [HE.out]; rfl, TakeR.no HE.out (by decide), bx.bel⟩
      · have h3' : ¬ (r.length : Int) < 20 := by omega
        go_wp2_with fail
        refine (cut_any _ r w1 (hr.below bx.bel) (by omega)).mono ?_
        rintro e w2 ⟨vh, vd, rfl, sh, sd, b2⟩
        replace bx := bx.step b2
        have hhl : (r.take 4).length = 4 := by rw [List.length_take]; omega
        have hdl : (r.drop 4).length = r.length - 4 := by rw [List.length_drop]
        obtain ⟨H, hH⟩ : ∃ H, r.take 4 = H := ⟨_, rfl⟩
        obtain ⟨D, hD⟩ : ∃ D, r.drop 4 = D := ⟨_, rfl⟩
        have HH : Hid (r.take 4 = H) := hH
        have HD : Hid (r.drop 4 = D) := hD
        rw [hH] at sh hhl
        rw [hD] at sd hdl
        have nr := numL_range hhl sh.byte
        have HT : Hid (takeE key s t l r = if 1073741824 ≤ numL H then 2 else if oldB t l (numL H) = true then 7 else openE key (nonceL H) H D) := by
          unfold Hid takeE
          rw [if_neg (fun h => h hok), if_neg h2, if_neg h3, hH, hD]
        have HTL : Hid (takeL key r = openL key (nonceL H) H D) := by unfold Hid takeL; rw [hH, hD]
        clear hH hD b2
        go_wp2_with fail
        refine (numberOf_any vh H w2 sh hhl).mono ?_
        rintro e w2' ⟨rfl, rfl⟩
        generalize hN : numL H = N at HT nr
        have HN : Hid (numL H = N) := hN
        clear hN
        by_cases h4 : 1073741824 ≤ N
        · have HE : Hid (takeE key s t l r = 2) := by unfold Hid; rw [HT.out, if_pos h4]
          go_wp2
          go_ret3
          exact ⟨.slice none 0 0, 0, by rw [HE.out]; rfl, TakeR.no HE.out (by decide), bx.bel⟩
        · go_wp2_with (refine wpList_load_row rfl 55 _ rfl w.heap.size rfl 55 _ (0, 0) _ bx.row Tryz.underlying55 rfl hi ?_)
          refine (windowOf_any vk s t l w2' hl).mono ?_
          rintro e w3 ⟨rfl, b3⟩
          replace bx := bx.step b3
          replace sh := sh.below b3
          replace sd := sd.below b3
          have n0 := nr.1
          have n1 : N < 1073741824 := by omega
          clear b3
          go_wp2_with fail
          refine (isOld_any t N l w3 hl hok.t0 hok.t1 n0 n1).mono ?_
          rintro e w4 ⟨rfl, b4⟩
          replace bx := bx.step b4
          replace sh := sh.below b4
          replace sd := sd.below b4
          clear b4
          cases h5 : oldB t l N with
          | true =>
            have HE : Hid (takeE key s t l r = 7) := by unfold Hid; rw [HT.out, if_neg (show ¬ 1073741824 ≤ N by omega), h5, if_pos rfl]
            clear h5
            go_wp2
            go_ret3
            exact ⟨.slice none 0 0, 0, by rw [HE.out]; rfl, TakeR.no HE.out (by decide), bx.bel⟩
          | false =>
            have HE : Hid (takeE key s t l r = openE key (nonceL H) H D) := by unfold Hid; rw [HT.out, if_neg (show ¬ 1073741824 ≤ N by omega), h5, if_neg (by simp)]
            have hk2 := hk.below bx.bel
            have ht2 := ht.below hpos bx.bel
            have hpos2 : 4 < w4.heap.size := by have := bx.lt; omega
            have c0 := bx.c0
            have bel2 := bx.bel
            have hd : Below w4.heap.size w4 w4.drew := (Below.refl _ _).drew
            have hzz : w.heap.size < w4.drew.heap.size := bx.lt
            clear h5 hk hr ht hok
            go_wp2_with fail
            go_region_with (first
              | (go_at_call 90; refine (nonceOf_any _ H _ (sh.below hd) hhl).mono ?_; rintro e w5 ⟨vn, rfl, sn, b5⟩; have c5 := (b5.cell (p := ⟨w.heap.size, 0, none⟩) hzz).trans c0)
              | (go_at_call 198; refine (open_any vk vn _ _ key (nonceL H) H D _ ((hk2.below hd).below b5) sn ((sh.below hd).below b5) ((sd.below hd).below b5) ((ht2.below hpos2 hd).below hpos2 b5)).mono ?_; rintro e w6 ⟨vx, rfl, sx, b6⟩))
            all_goals
              have d5 : Below w.heap.size w w5 := bel2.trans ((hd.trans b5).mono bel2.size)
              have d6 : Below w.heap.size w w6 := d5.trans (b6.mono d5.size)
              clear bx sh sd hk2 ht2 hd c0 c5 sn b5 b6 hzz bel2
              generalize openE key (nonceL H) H D = E at HE
              generalize openL key (nonceL H) H D = X at HTL sx
              go_wp2
              go_ret3
              exact ⟨vx, N, by rw [HE.out]; rfl, fun _ => ⟨by rw [HH.out, HN.out], by rw [HTL.out]; exact sx⟩, d6⟩
  · have HC : Hid (checkE key s t l = 5) := checkE_no hok
    have HE : Hid (takeE key s t l r = 5) := if_pos hok
    go_enter Tryz.func145, Tryz.ntmps145
    go_wp2_with (refine wpList_load_row rfl 55 _ rfl w.heap.size rfl 55 _ (0, 0) _ bx.row Tryz.underlying55 rfl hi ?_)
    refine (check_any vk key s t l _ (hk.below bx.bel) hl).mono ?_
    rintro e w1 ⟨rfl, b1⟩
    replace bx := bx.step b1
    rw [HC.out]
    go_wp2
    go_ret3
    exact ⟨.slice none 0 0, 0, by rw [HE.out]; rfl, TakeR.no HE.out (by decide), bx.bel⟩
end Go.Proofs.YtakgfdbjgeopdaaGreatDoor
