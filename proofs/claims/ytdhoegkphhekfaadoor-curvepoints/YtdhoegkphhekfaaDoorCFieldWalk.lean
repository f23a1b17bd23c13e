/-
  Numbers modulo 2^255 - 19 in memory, as the document has them, and the walk of its sum.
-/
import Derived.Test.YtdhoegkphhekfaaDoorCShSpec
import Derived.Test.YtdhoegkphhekfaaDoorCCutWalk
namespace Go.Proofs.YtdhoegkphhekfaaDoor
open Go.RowKit

/-- the slice v holds the number f in sixteen digits -/
def Ef (w : World) (v : Value) (f : Cv.F) : Prop := ∃ l, Il w v l ∧ l.length = 16 ∧ Wd l ∧ wN l = (f.val : Int)
theorem Ef.below {w w' : World} {v : Value} {f : Cv.F} (h : Ef w v f) (hb : Below w.heap.size w w') : Ef w' v f := by
  obtain ⟨l, h1, h2⟩ := h
  exact ⟨l, h1.below hb, h2⟩
set_option maxHeartbeats 1000000 in
theorem cadd_any (va vb : Value) (a b : List Int) (w : World) (ha : Il w va a) (hb : Il w vb b) (la : a.length = 16) (lb : b.length = 16) (da : Wd a) (db : Wd b) :
    Calls Tryd.prog 36 #[va, vb] w fun e w' => ∃ v', e = .returned v' ∧ ∃ r, Il w' v' r ∧ r.length = 16 ∧ Wd r ∧ wN r = (wN a + wN b) % cP ∧ Below w.heap.size w w' := by
  have ba := wP_bound da 16
  have bb := wP_bound db 16
  have ea : wN a = wP a 16 := by unfold wN; rw [la]
  have eb : wN b = wP b 16 := by unfold wN; rw [lb]
  have hs : wN a + wN b < 65536 ^ 17 := by rw [ea, eb]; simp only [Int.reducePow] at *; omega
  have HB : Hid (wN a + wN b < cB 0) := by unfold Hid cB; rw [ea, eb]; simp only [Int.reducePow, if_true] at *; omega
  clear ba bb ea eb
  go_enter Tryd.func36, Tryd.ntmps36
  go_wp2_with fail
  refine (cplus_any va vb a b w ha hb (by omega) (by omega) da db hs).mono ?_
  rintro e w1 ⟨v1, rfl, r, ho, hl, hd, hv, hb1⟩
  go_wp2_with fail
  refine (ccut_any v1 r w1 (Il.ofOwns ho) (by omega) (by omega) hd (by rw [hv]; exact HB.out)).mono ?_
  rintro e w2 ⟨v2, rfl, r2, h2, l2, d2, e2, hb2⟩
  rw [hv] at e2
  have hbw : Below w.heap.size w w2 := hb1.trans (hb2.mono hb1.size)
  have H2 : Hid (Il w2 v2 r2 ∧ r2.length = 16 ∧ Wd r2 ∧ wN r2 = (wN a + wN b) % cP) := ⟨h2, l2, d2, e2⟩
  clear h2 l2 d2 e2 hv hl hd ho
  go_wp2
  go_ret
  exact ⟨v2, rfl, r2, H2.out.1, H2.out.2.1, H2.out.2.2.1, H2.out.2.2.2, hbw⟩

theorem fadd_any (va vb : Value) (a b : Cv.F) (w : World) (ha : Ef w va a) (hb : Ef w vb b) :
    Calls Tryd.prog 36 #[va, vb] w fun e w' => ∃ v', e = .returned v' ∧ Ef w' v' (a + b) ∧ Below w.heap.size w w' := by
  obtain ⟨la, h1, n1, d1, e1⟩ := ha
  obtain ⟨lb, h2, n2, d2, e2⟩ := hb
  refine (cadd_any va vb la lb w h1 h2 n1 n2 d1 d2).mono ?_
  rintro e w1 ⟨v1, rfl, r, hr, lr, dr, er, hb1⟩
  exact ⟨v1, rfl, ⟨r, hr, lr, dr, by rw [er, e1, e2, f_add]⟩, hb1⟩

/-- what is put in for a difference -/
def tkD (b : List Int) (j : Nat) : Int := (if j = 0 then 65498 else 65535) - b.getD j 0
def tkL (b : List Int) (k : Nat) : List Int := (List.range k).map (tkD b)
theorem tkL_length (b : List Int) (k : Nat) : (tkL b k).length = k := by simp [tkL]
theorem tkL_succ (b : List Int) (k : Nat) : tkL b (k + 1) = tkL b k ++ [tkD b k] := by simp [tkL, List.range_succ]
theorem tkL_get (b : List Int) (k j : Nat) (h : j < k) : (tkL b k).getD j 0 = tkD b j := by
  simp [tkL, List.getD, List.getElem?_map, List.getElem?_range h]
theorem tk_sum (b : List Int) (k : Nat) : sW (tkD b) (k + 1) = 65536 ^ (k + 1) - 38 - wP b (k + 1) := by
  induction k with
  | zero => simp [sW, tkD, wP]
  | succ k ih =>
    rw [sW, ih, tkD, if_neg (by omega), show wP b (k + 1 + 1) = wP b (k + 1) + b.getD (k + 1) 0 * 65536 ^ (k + 1) from rfl, Int.pow_succ 65536 (k + 1), Int.sub_mul]
    generalize (65536 : Int) ^ (k + 1) = W
    generalize b.getD (k + 1) 0 * W = y
    omega
/-- what stands after k digits of the difference -/
structure CBor (b r : List Int) (k : Nat) (c : Int) : Prop where
  len : r.length = k
  dig : Wd r
  sum : wN r - c * 65536 ^ k = sW (tkD b) k
  lo : 0 ≤ c
  hi : c ≤ 1
theorem CBor.zero (b : List Int) : CBor b [] 0 0 := ⟨rfl, Wd.nil, by simp [sW, wN, wP], by omega, by omega⟩
theorem tkD_range {b : List Int} (hb : Wd b) (j : Nat) : -37 ≤ tkD b j ∧ tkD b j ≤ 65535 := by
  have := hb.get j
  unfold tkD
  split <;> omega
theorem CBor.less {b r : List Int} {k : Nat} {c : Int} (h : CBor b r k c) (hb : Wd b) (hx : tkD b k - c < 0) : CBor b (r ++ [tkD b k - c + 65536]) (k + 1) 1 := by
  have h1 := tkD_range hb k
  have h2 := h.lo
  have h3 := h.hi
  have h5 := h.sum
  refine ⟨by simp [h.len], h.dig.snoc (by omega), ?_, by omega, by omega⟩
  rw [wN_snoc, h.len, sW, Int.pow_succ]
  grind
theorem CBor.more {b r : List Int} {k : Nat} {c : Int} (h : CBor b r k c) (hb : Wd b) (hx : ¬ tkD b k - c < 0) : CBor b (r ++ [tkD b k - c]) (k + 1) 0 := by
  have h1 := tkD_range hb k
  have h2 := h.lo
  have h3 := h.hi
  have h5 := h.sum
  refine ⟨by simp [h.len], h.dig.snoc (by omega), ?_, by omega, by omega⟩
  rw [wN_snoc, h.len, sW]
  grind
theorem CBor.done {b r : List Int} {c : Int} (h : CBor b r 16 c) (hl : b.length = 16) (hb : wN b < 57896044618658097711785492504343953926634992332820282019728792003956564819949) : wN r = 115792089237316195423570985008687907853269984665640564039457584007913129639898 - wN b := by
  have h1 := h.sum
  rw [tk_sum b 15] at h1
  have e : wP b (15 + 1) = wN b := by unfold wN; rw [hl]
  rw [e] at h1
  have h2 := h.lo
  have h3 := h.hi
  have h4 := wP_bound h.dig 16
  have h5 : wP r 16 = wN r := by unfold wN; rw [h.len]
  rw [h5] at h4
  simp only [Int.reducePow, Nat.reduceAdd] at *
  omega
end Go.Proofs.YtdhoegkphhekfaaDoor
