/-
  Numbers in sixteen limbs of 16 bits, which may be below nought on the way, modulo 2^255 - 19. No program is named here.
-/
import Derived.Test.YtdhoegkphhekfabDoorCRdSpec
import Derived.Test.YtdhoegkphhekfabDoorCObSpec
namespace Go.Proofs.YtdhoegkphhekfabDoor
open Go.RowKit

def lmA (l : List Int) : Array Value := (l.map (Value.int .i64)).toArray
theorem lmA_size (l : List Int) : (lmA l).size = l.length := by simp [lmA]
theorem lmA_get (l : List Int) (i : Nat) (h : i < l.length) : (lmA l)[i]? = some (.int .i64 (l.getD i 0)) := by
  simp [lmA, List.getD, List.getElem?_eq_getElem h]
theorem lmA_set (l : List Int) (i : Nat) (x : Int) : (lmA l).setIfInBounds i (.int .i64 x) = lmA (l.set i x) := by
  apply Array.ext'
  simp [lmA, List.map_set]
theorem lm_store {w : World} {g : Nat} {l : List Int} {t : TypeId} (h : w.heap[g]? = some (.cells (lmA l) t (0, 0))) (k : Nat) (x : Int) :
    (w.setCell ⟨g, k, none⟩ (.int .i64 x)).heap[g]? = some (.cells (lmA (l.set k x)) t (0, 0)) := by
  rw [heap_setCell_same _ _ _ _ _ _ h, lmA_set]
theorem lmA_one (l : List Int) : (lmA l).all (·.oneCell') = true := by simp [lmA, Value.oneCell']

/-- a number modulo 2^255 - 19 -/
def toF (v : Int) : Cv.F := ⟨(v % cP).toNat, by
  have h0 := Int.emod_nonneg v (show cP ≠ 0 by decide)
  have h1 := Int.emod_lt_of_pos v (show 0 < cP by decide)
  have h2 : cP = ((Cv.P25 : Nat) : Int) := rfl
  omega⟩
theorem toF_val (v : Int) : ((toF v).val : Int) = v % cP := Int.toNat_of_nonneg (Int.emod_nonneg v (show cP ≠ 0 by decide))
theorem f_ext {a b : Cv.F} (h : (a.val : Int) = (b.val : Int)) : a = b := Fin.ext (by omega)
theorem toF_mod {a b : Int} (h : a % cP = b % cP) : toF a = toF b := f_ext (by rw [toF_val, toF_val, h])
theorem toF_add (a b : Int) : toF (a + b) = toF a + toF b := f_ext (by rw [f_add, toF_val, toF_val, toF_val, ← Int.add_emod])
theorem toF_mul (a b : Int) : toF (a * b) = toF a * toF b := f_ext (by rw [f_mul, toF_val, toF_val, toF_val, ← Int.mul_emod])
theorem toF_sub (a b : Int) : toF (a - b) = toF a - toF b := f_ext (by
  rw [f_sub, toF_val, toF_val, toF_val]
  unfold cP
  omega)
theorem toF_self (f : Cv.F) : toF (f.val : Int) = f := f_ext (by
  have := f_lt f
  rw [toF_val]
  unfold cP
  omega)

/-- sixteen limbs, none further from nought than a bound -/
def QLim (B : Int) (l : List Int) : Prop := l.length = 16 ∧ ∀ j, -B ≤ l.getD j 0 ∧ l.getD j 0 ≤ B
theorem QLim.mono {B C : Int} {l : List Int} (h : QLim B l) (hBC : B ≤ C) : QLim C l := ⟨h.1, fun j => by have := h.2 j; omega⟩
theorem QLim.wd {l : List Int} (h : Wd l) (hl : l.length = 16) : QLim 65535 l := ⟨hl, fun j => by have := h.get j; omega⟩
theorem QLim.set {B : Int} {l : List Int} (h : QLim B l) (t : Nat) {y : Int} (hy : -B ≤ y ∧ y ≤ B) : QLim B (l.set t y) := by
  refine ⟨by simpa using h.1, fun j => ?_⟩
  by_cases e : t = j
  · subst e
    by_cases ht : t < l.length
    · rw [show (l.set t y).getD t 0 = y by simp [List.getD, ht]]; exact hy
    · have := h.2 t
      rw [getD_past (by simp; omega)]
      rw [getD_past (by omega)] at this
      exact this
  · rw [show (l.set t y).getD j 0 = l.getD j 0 by simp [List.getD, List.getElem?_set_ne e]]; exact h.2 j
theorem lget_same {l : List Int} {k : Nat} (h : k < l.length) (x : Int) : (l.set k x).getD k 0 = x := by
  simp [List.getD, h]
theorem lget_other {l : List Int} {k j : Nat} (h : k ≠ j) (x : Int) : (l.set k x).getD j 0 = l.getD j 0 := by
  simp [List.getD, List.getElem?_set_ne h]
theorem wd_of {l : List Int} (h : ∀ j, j < l.length → 0 ≤ l.getD j 0 ∧ l.getD j 0 < 65536) : Wd l := by
  intro x hx
  obtain ⟨j, hj, rfl⟩ := List.getElem_of_mem hx
  have := h j hj
  rwa [getD_at hj] at this
theorem wN_16 {l : List Int} (h : l.length = 16) : wP l 16 = wN l := by unfold wN; rw [h]

/-- what stands after k limbs of a sum or of a difference -/
structure QMix (e : Int) (l m r : List Int) (k : Nat) : Prop where
  len : r.length = 16
  done : ∀ j, j < k → r.getD j 0 = l.getD j 0 + e * m.getD j 0
  rest : ∀ j, k ≤ j → r.getD j 0 = l.getD j 0
theorem QMix.zero {e : Int} {l m : List Int} (h : l.length = 16) : QMix e l m l 0 := ⟨h, fun _ h => by omega, fun _ _ => rfl⟩
theorem QMix.succ {e : Int} {l m r : List Int} {k : Nat} (h : QMix e l m r k) (hk : k < 16) {y : Int} (hy : y = r.getD k 0 + e * m.getD k 0) : QMix e l m (r.set k y) (k + 1) := by
  refine ⟨by simpa using h.len, fun j hj => ?_, fun j hj => ?_⟩
  · by_cases q : k = j
    · subst q; rw [lget_same (by rw [h.len]; omega), hy, h.rest k (by omega)]
    · rw [lget_other q]; exact h.done j (by omega)
  · rw [lget_other (by omega)]; exact h.rest j (by omega)
theorem wP_lin {e : Int} {l m r : List Int} (k : Nat) (h : ∀ j, j < k → r.getD j 0 = l.getD j 0 + e * m.getD j 0) : wP r k = wP l k + e * wP m k := by
  induction k with
  | zero => simp [wP]
  | succ k ih => rw [wP, wP, wP, ih (fun j hj => h j (by omega)), h k (by omega)]; grind
theorem QMix.val {e : Int} {l m r : List Int} (h : QMix e l m r 16) (hl : l.length = 16) (hm : m.length = 16) : wN r = wN l + e * wN m := by
  have := wP_lin 16 (fun j hj => h.done j hj)
  rwa [wN_16 h.len, wN_16 hl, wN_16 hm] at this
theorem QMix.plus {l m r : List Int} {A B : Int} (h : QMix 1 l m r 16) (hl : QLim A l) (hm : QLim B m) : QLim (A + B) r ∧ wN r = wN l + wN m := by
  refine ⟨⟨h.len, fun j => ?_⟩, by rw [h.val hl.1 hm.1]; omega⟩
  have a := hl.2 j
  have b := hm.2 j
  by_cases q : j < 16
  · rw [h.done j q]; omega
  · rw [h.rest j (by omega)]; omega
theorem QMix.minus {l m r : List Int} {A B : Int} (h : QMix (-1) l m r 16) (hl : QLim A l) (hm : QLim B m) : QLim (A + B) r ∧ wN r = wN l - wN m := by
  refine ⟨⟨h.len, fun j => ?_⟩, by rw [h.val hl.1 hm.1]; omega⟩
  have a := hl.2 j
  have b := hm.2 j
  by_cases q : j < 16
  · rw [h.done j q]; omega
  · rw [h.rest j (by omega)]; omega

/-- what stands after k limbs of carrying -/
structure QCarr (l m : List Int) (k : Nat) (o : Int) : Prop where
  len : m.length = 16
  sum : wN m + o * 65536 ^ k = wN l
  done : ∀ j, j < k → 0 ≤ m.getD j 0 ∧ m.getD j 0 < 65536
  rest : ∀ j, k ≤ j → m.getD j 0 = l.getD j 0
  lo : -140737488355328 ≤ o
  hi : o ≤ 140737488355328
theorem QCarr.zero {l : List Int} (h : l.length = 16) : QCarr l l 0 0 := ⟨h, by omega, fun _ h => by omega, fun _ _ => rfl, by omega, by omega⟩
theorem QCarr.succ {l m : List Int} {k : Nat} {o : Int} (h : QCarr l m k o) (hl : QLim 4611686018427387904 l) (hk : k < 16) :
    QCarr l (m.set k ((m.getD k 0 + o) % 65536)) (k + 1) ((m.getD k 0 + o) / 65536) := by
  have hx := h.rest k (by omega)
  have hb := hl.2 k
  have h1 := h.lo
  have h2 := h.hi
  have hs := h.sum
  refine ⟨by simpa using h.len, ?_, fun j hj => ?_, fun j hj => ?_, by omega, by omega⟩
  · rw [wN_set k (by rw [h.len]; omega), Int.pow_succ]
    have e : m.getD k 0 + o = (m.getD k 0 + o) % 65536 + 65536 * ((m.getD k 0 + o) / 65536) := by omega
    generalize (m.getD k 0 + o) % 65536 = X at *
    generalize (m.getD k 0 + o) / 65536 = Y at *
    clear hx hb h1 h2
    grind
  · by_cases q : k = j
    · subst q; rw [lget_same (by rw [h.len]; omega)]; omega
    · rw [lget_other q]; exact h.done j (by omega)
  · rw [lget_other (by omega)]; exact h.rest j (by omega)
theorem QCarr.all {l m : List Int} {o : Int} (h : QCarr l m 16 o) : Wd m ∧ (0 ≤ wN m ∧ wN m < 115792089237316195423570985008687907853269984665640564039457584007913129639936) ∧ wN m + o * 115792089237316195423570985008687907853269984665640564039457584007913129639936 = wN l := by
  have hw : Wd m := wd_of (fun j hj => h.done j (by rw [h.len] at hj; exact hj))
  refine ⟨hw, ?_, h.sum⟩
  have := wP_bound hw 16
  rw [wN_16 h.len] at this
  simpa only [Int.reducePow] using this

/-- what stands after so many of the three rounds -/
def QRnd : Nat → List Int → Prop
  | 0, m => QLim 72057594037927936 m
  | 1, m => QLim 18014398509481984 m ∧ -9007199254740992 ≤ wN m ∧ wN m < 115792089237316195423570985008687907853269984665640564039457584007913129639936 + 9007199254740992
  | 2, m => QLim 18014398509481984 m ∧ 0 ≤ wN m ∧ wN m < 115792089237316195423570985008687907853269984665640564039457584007913129639936
  | _, m => Wd m ∧ m.length = 16
theorem QRnd.lim : ∀ {k : Nat} {m : List Int}, QRnd k m → QLim 4611686018427387904 m
  | 0, _, h => QLim.mono h (by omega)
  | 1, _, h => QLim.mono h.1 (by omega)
  | 2, _, h => QLim.mono h.1 (by omega)
  | _ + 3, _, h => QLim.mono (QLim.wd (And.left h) (And.right h)) (by omega)
theorem QRnd.succ {k : Nat} {l m : List Int} {o : Int} (h : QRnd k l) (hk : k < 3) (hc : QCarr l m 16 o) :
    QRnd (k + 1) (m.set 0 (m.getD 0 0 + o * 38)) ∧ wN (m.set 0 (m.getD 0 0 + o * 38)) % cP = wN l % cP ∧ (0 ≤ m.getD 0 0 ∧ m.getD 0 0 < 65536) ∧ -140737488355328 ≤ o ∧ o ≤ 140737488355328 := by
  obtain ⟨hw, hb, hs⟩ := hc.all
  have o1 := hc.lo
  have o2 := hc.hi
  have hl := hc.len
  have d0 := hw.get 0
  have e : wN (m.set 0 (m.getD 0 0 + o * 38)) = wN m + o * 38 := by
    rw [wN_set 0 (by omega)]; simp only [Int.pow_zero]; omega
  refine ⟨?_, ?_, d0, o1, o2⟩
  · obtain rfl | rfl | rfl : k = 0 ∨ k = 1 ∨ k = 2 := by omega
    · refine ⟨((QLim.wd hw hl).mono (by omega)).set 0 (by omega), ?_⟩
      rw [e]; omega
    · obtain ⟨_, h4⟩ := h
      refine ⟨((QLim.wd hw hl).mono (by omega)).set 0 (by omega), ?_⟩
      rw [e]; omega
    · obtain ⟨_, h4⟩ := h
      have ho : o = 0 := by omega
      subst ho
      exact ⟨hw.set 0 (by omega), by simpa using hl⟩
  · rw [e, ← hs]
    rw [show wN m + o * 115792089237316195423570985008687907853269984665640564039457584007913129639936 = wN m + o * 38 + cP * (2 * o) by unfold cP; omega, Int.add_mul_emod_self_left]

/-- what stands after i rows and j products of the next one -/
structure QProd (n m r : List Int) (i j : Nat) : Prop where
  len : r.length = 16
  sum : wN r % cP = (wP n i * wN m + n.getD i 0 * 65536 ^ i * wP m j) % cP
  lim : ∀ t, -((16 * (i : Int) + (j : Int)) * 652835028992) ≤ r.getD t 0 ∧ r.getD t 0 ≤ (16 * (i : Int) + (j : Int)) * 652835028992
theorem QProd.zero (n m : List Int) : QProd n m (List.replicate 16 0) 0 0 := by
  refine ⟨rfl, by simp [wP]; rfl, fun t => ?_⟩
  have : (List.replicate 16 (0 : Int)).getD t 0 = 0 := by
    rcases Nat.lt_or_ge t 16 with h | h
    · rw [List.getD, List.getElem?_replicate, if_pos h]; rfl
    · exact getD_past (by rw [List.length_replicate]; exact h)
  rw [this]; omega
theorem qprod_bound {x y : Int} (hx : -131072 ≤ x ∧ x ≤ 131072) (hy : -131072 ≤ y ∧ y ≤ 131072) : -17179869184 ≤ x * y ∧ x * y ≤ 17179869184 := by
  have h1 : 0 ≤ (131072 - x) * (131072 + y) := Int.mul_nonneg (by omega) (by omega)
  have h2 : 0 ≤ (131072 + x) * (131072 - y) := Int.mul_nonneg (by omega) (by omega)
  have h3 : 0 ≤ (131072 - x) * (131072 - y) := Int.mul_nonneg (by omega) (by omega)
  have h4 : 0 ≤ (131072 + x) * (131072 + y) := Int.mul_nonneg (by omega) (by omega)
  rw [Int.sub_mul, Int.mul_add, Int.mul_add] at h1
  rw [Int.add_mul, Int.mul_sub, Int.mul_sub] at h2
  rw [Int.sub_mul, Int.mul_sub, Int.mul_sub] at h3
  rw [Int.add_mul, Int.mul_add, Int.mul_add] at h4
  omega
theorem QProd.low {n m r : List Int} {i j : Nat} (h : QProd n m r i j) (hn : QLim 131072 n) (hm : QLim 131072 m) (hij : i + j < 16) :
    QProd n m (r.set (i + j) (r.getD (i + j) 0 + n.getD i 0 * m.getD j 0)) i (j + 1) := by
  have hb := qprod_bound (hn.2 i) (hm.2 j)
  have h1 := h.lim (i + j)
  refine ⟨by simpa using h.len, ?_, fun t => ?_⟩
  · rw [wN_set _ (by rw [h.len]; exact hij), Int.add_emod, h.sum, ← Int.add_emod]
    congr 1
    rw [Int.pow_add]
    simp only [wP]
    grind
  · by_cases q : i + j = t
    · subst q; rw [lget_same (by rw [h.len]; omega)]; omega
    · rw [lget_other q]; have := h.lim t; omega
theorem QProd.high {n m r : List Int} {i j : Nat} (h : QProd n m r i j) (hn : QLim 131072 n) (hm : QLim 131072 m) (hij : 16 ≤ i + j) (hi : i < 16) (hj : j < 16) :
    QProd n m (r.set (i + j - 16) (r.getD (i + j - 16) 0 + n.getD i 0 * m.getD j 0 * 38)) i (j + 1) := by
  have hb := qprod_bound (hn.2 i) (hm.2 j)
  have h1 := h.lim (i + j - 16)
  refine ⟨by simpa using h.len, ?_, fun t => ?_⟩
  · rw [wN_set _ (by rw [h.len]; omega), Int.add_emod, h.sum, ← Int.add_emod]
    have e : (65536 : Int) ^ i * 65536 ^ j = 65536 ^ (i + j - 16) * (2 * cP + 38) := by
      rw [← Int.pow_add, show 2 * cP + 38 = (65536 : Int) ^ 16 by unfold cP; rfl, ← Int.pow_add]; congr 1; omega
    have e2 : wP n i * wN m + n.getD i 0 * 65536 ^ i * wP m (j + 1) = wP n i * wN m + n.getD i 0 * 65536 ^ i * wP m j + (r.getD (i + j - 16) 0 + n.getD i 0 * m.getD j 0 * 38 - r.getD (i + j - 16) 0) * 65536 ^ (i + j - 16) + cP * (2 * (n.getD i 0 * m.getD j 0 * 65536 ^ (i + j - 16))) := by
      simp only [wP]
      grind
    rw [e2, Int.add_mul_emod_self_left]
  · by_cases q : i + j - 16 = t
    · subst q; rw [lget_same (by rw [h.len]; omega)]; omega
    · rw [lget_other q]; have := h.lim t; omega
theorem QProd.row {n m r : List Int} {i : Nat} (h : QProd n m r i 16) (hm : m.length = 16) : QProd n m r (i + 1) 0 := by
  refine ⟨h.len, ?_, fun t => ?_⟩
  · rw [h.sum, wN_16 hm]
    congr 1
    simp only [wP]
    grind
  · have := h.lim t; omega
theorem QProd.all {n m r : List Int} (h : QProd n m r 16 0) (hn : n.length = 16) : QLim 72057594037927936 r ∧ wN r % cP = (wN n * wN m) % cP := by
  refine ⟨⟨h.len, fun t => ?_⟩, ?_⟩
  · have := h.lim t; omega
  · rw [h.sum, wN_16 hn]; congr 1; simp only [wP]; grind

/-- the modulus, and it less two -/
def modL : List Int := [65517, 65535, 65535, 65535, 65535, 65535, 65535, 65535, 65535, 65535, 65535, 65535, 65535, 65535, 65535, 32767]
def powL : List Int := [65515, 65535, 65535, 65535, 65535, 65535, 65535, 65535, 65535, 65535, 65535, 65535, 65535, 65535, 65535, 32767]
theorem modL_val : wN modL = cP := by decide +kernel
theorem modL_wd : Wd modL := by unfold Wd modL; decide

/-- the bound ahead of the turn t of making least -/
def lsB (t : Nat) : Int :=
  if t = 0 then 115792089237316195423570985008687907853269984665640564039457584007913129639936
  else if t = 1 then cP + 38 else cP
theorem least_turn {n d m : List Int} {o : Int} {t : Nat} (hn : Wd n) (hl : n.length = 16) (ht : t < 2) (hb : wN n < lsB t) (hd : wN d = wN n - cP) (hc : QCarr d m 16 o) :
    (o = 0 → wN m % cP = wN n % cP ∧ wN m < lsB (t + 1)) ∧ (o ≠ 0 → wN n < lsB (t + 1)) := by
  obtain ⟨_, h1, h2⟩ := hc.all
  have h0 := (wP_bound hn 16).1
  rw [wN_16 hl] at h0
  rw [hd] at h2
  have e1 : wN m = wN n - cP → wN m % cP = wN n % cP := fun e => by rw [e, show wN n - cP = wN n - cP * 1 by omega, Int.sub_mul_emod_self_left]
  obtain rfl | rfl : t = 0 ∨ t = 1 := by omega
  · have b0 : lsB 0 = 115792089237316195423570985008687907853269984665640564039457584007913129639936 := rfl
    have b1 : lsB 1 = cP + 38 := rfl
    rw [b0] at hb
    show (o = 0 → _ ∧ wN m < lsB 1) ∧ (o ≠ 0 → wN n < lsB 1)
    rw [b1]
    refine ⟨fun ho => ?_, fun ho => ?_⟩
    · subst ho
      refine ⟨e1 (by omega), ?_⟩
      unfold cP at *; omega
    · unfold cP at *; omega
  · have b1 : lsB 1 = cP + 38 := rfl
    have b2 : lsB 2 = cP := rfl
    rw [b1] at hb
    show (o = 0 → _ ∧ wN m < lsB 2) ∧ (o ≠ 0 → wN n < lsB 2)
    rw [b2]
    refine ⟨fun ho => ?_, fun ho => ?_⟩
    · subst ho
      refine ⟨e1 (by omega), ?_⟩
      unfold cP at *; omega
    · unfold cP at *; omega

/-- the bit i of a number in limbs -/
def lbD (l : List Int) (i : Nat) : Int := l.getD (i / 16) 0 / ((2 ^ (i % 16) : Nat) : Int) % 2
theorem powL_bit : ∀ i, i < 255 → lbD powL i = ((Cv.P25 - 2) / 2 ^ i % 2 : Nat) := by decide +kernel
/-- what a power stands at after j bits -/
def pwF (a : Cv.F) (j : Nat) : Cv.F := Cv.fpow a ((Cv.P25 - 2) / 2 ^ (255 - j))
theorem pwF_zero (a : Cv.F) : pwF a 0 = 1 := by
  unfold pwF
  rw [show (Cv.P25 - 2) / 2 ^ (255 - 0) = 0 by decide +kernel, Cv.fpow_zero]
theorem pwF_all (a : Cv.F) : pwF a 255 = Cv.finv a := by
  unfold pwF Cv.finv
  rw [show (Cv.P25 - 2) / 2 ^ (255 - 255) = Cv.P25 - 2 by decide +kernel]
theorem pw_half (E j : Nat) (hj : j < 255) : E / 2 ^ (255 - (j + 1)) = 2 * (E / 2 ^ (255 - j)) + E / 2 ^ (254 - j) % 2 := by
  rw [show 255 - (j + 1) = 254 - j by omega, show 255 - j = 254 - j + 1 by omega, Nat.pow_succ, ← Nat.div_div_eq_div_mul]
  omega
theorem pwF_nought (a : Cv.F) (j : Nat) (hj : j < 255) (h : lbD powL (254 - j) = 0) : pwF a (j + 1) = pwF a j * pwF a j := by
  have hb := powL_bit (254 - j) (by omega)
  rw [h] at hb
  unfold pwF
  rw [pw_half _ j hj, ← Cv.fpow_add, show (Cv.P25 - 2) / 2 ^ (254 - j) % 2 = 0 by omega]
  congr 1
  omega
theorem pwF_one (a : Cv.F) (j : Nat) (hj : j < 255) (h : lbD powL (254 - j) = 1) : pwF a (j + 1) = pwF a j * pwF a j * a := by
  have hb := powL_bit (254 - j) (by omega)
  rw [h] at hb
  unfold pwF
  rw [pw_half _ j hj, ← Cv.fpow_add, ← Cv.fpow_succ, show (Cv.P25 - 2) / 2 ^ (254 - j) % 2 = 1 by omega]
  congr 1
  omega
end Go.Proofs.YtdhoegkphhekfabDoor
