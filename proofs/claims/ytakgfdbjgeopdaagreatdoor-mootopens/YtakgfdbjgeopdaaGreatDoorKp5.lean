/-
  Sums and products of numbers in limbs. No program is named here.
-/
import Derived.Laws.ResultCell
import Derived.Test.YtakgfdbjgeopdaaGreatDoorKp4
import Derived.Test.YtakgfdbjgeopdaaGreatDoorKp2
namespace Go.Proofs.YtakgfdbjgeopdaaGreatDoor
open Go.RowKit

theorem val_set {l : List Int} (h : l.length = 5) (t : Nat) (ht : t < 5) (y : Int) : val (l.set t y) = val l + (y - l.getD t 0) * 67108864 ^ t := by
  obtain ⟨a, b, c, d, e, rfl⟩ := list5 l h
  obtain rfl | rfl | rfl | rfl | rfl : t = 0 ∨ t = 1 ∨ t = 2 ∨ t = 3 ∨ t = 4 := by omega
  all_goals
    simp only [List.set_cons_zero, List.set_cons_succ, List.getD_cons_zero, List.getD_cons_succ, val5]
    omega

/-- the first k limbs' number -/
def pv (n : List Int) : Nat → Int
  | 0 => 0
  | k + 1 => pv n k + n.getD k 0 * 67108864 ^ k
theorem pv_five {n : List Int} (h : n.length = 5) : pv n 5 = val n := by
  obtain ⟨a, b, c, d, e, rfl⟩ := list5 n h
  simp only [pv, List.getD_cons_zero, List.getD_cons_succ, val5]
  omega

/-- what stands after k rounds of adding -/
structure Adds (l m r : List Int) (k : Nat) : Prop where
  len : r.length = 5
  done : ∀ j, j < k → r.getD j 0 = l.getD j 0 + m.getD j 0
  rest : ∀ j, k ≤ j → r.getD j 0 = l.getD j 0
theorem Adds.zero {l m : List Int} (h : l.length = 5) : Adds l m l 0 := ⟨h, fun _ h => by omega, fun _ _ => rfl⟩
theorem getD_set_same {l : List Int} {k : Nat} (h : k < l.length) (x : Int) : (l.set k x).getD k 0 = x := by
  simp [List.getD, h]
theorem getD_set_other {l : List Int} {k j : Nat} (h : k ≠ j) (x : Int) : (l.set k x).getD j 0 = l.getD j 0 := by
  simp [List.getD, List.getElem?_set_ne h]
theorem Adds.succ {l m r : List Int} {k : Nat} (h : Adds l m r k) (hk : k < 5) : Adds l m (r.set k (r.getD k 0 + m.getD k 0)) (k + 1) := by
  refine ⟨by simpa using h.len, fun j hj => ?_, fun j hj => ?_⟩
  · by_cases e : k = j
    · subst e; rw [getD_set_same (by rw [h.len]; omega), h.rest k (by omega)]
    · rw [getD_set_other e]; exact h.done j (by omega)
  · rw [getD_set_other (by omega)]; exact h.rest j (by omega)
theorem Adds.five {l m r : List Int} (h : Adds l m r 5) (hl : Lim 67108864 l) (hm : Lim 67108864 m) : Lim 134217728 r ∧ val r = val l + val m := by
  obtain ⟨l0, l1, l2, l3, l4, rfl, b0, b1, b2, b3, b4⟩ := hl.split
  obtain ⟨m0, m1, m2, m3, m4, rfl, c0, c1, c2, c3, c4⟩ := hm.split
  obtain ⟨r0, r1, r2, r3, r4, rfl⟩ := list5 r h.len
  have d0 : r0 = l0 + m0 := h.done 0 (by omega)
  have d1 : r1 = l1 + m1 := h.done 1 (by omega)
  have d2 : r2 = l2 + m2 := h.done 2 (by omega)
  have d3 : r3 = l3 + m3 := h.done 3 (by omega)
  have d4 : r4 = l4 + m4 := h.done 4 (by omega)
  exact ⟨Lim.of5 (by omega) (by omega) (by omega) (by omega) (by omega), by rw [val5, val5, val5]; omega⟩

/-- what stands after i rows and j products of the next one -/
structure Prods (n m r : List Int) (i j : Nat) : Prop where
  len : r.length = 5
  sum : val r % pp = (pv n i * val m + n.getD i 0 * 67108864 ^ i * pv m j) % pp
  low : ∀ t, 0 ≤ r.getD t 0
  high : ∀ t, r.getD t 0 ≤ (5 * (i : Int) + (j : Int)) * 45035996273704960

theorem Prods.zero (n m : List Int) : Prods n m [0, 0, 0, 0, 0] 0 0 := by
  refine ⟨rfl, ?_, fun t => ?_, fun t => ?_⟩
  · simp [pv, val]
  · match t with
    | 0 | 1 | 2 | 3 | 4 => simp
    | t + 5 => simp [List.getD]
  · match t with
    | 0 | 1 | 2 | 3 | 4 => simp
    | t + 5 => simp [List.getD]

theorem prod_bound {x y : Int} (hx : 0 ≤ x ∧ x < 134217728) (hy : 0 ≤ y ∧ y < 67108864) : 0 ≤ x * y ∧ x * y ≤ 9007199254740992 := by
  refine ⟨Int.mul_nonneg hx.1 hy.1, ?_⟩
  have h1 := Int.mul_le_mul (Int.le_of_lt hx.2) (Int.le_of_lt hy.2) hy.1 (by omega)
  omega

theorem Prods.low_step {n m r : List Int} {i j : Nat} (h : Prods n m r i j) (hn : Lim 134217728 n) (hm : Lim 67108864 m) (hij : i + j < 5) :
    Prods n m (r.set (i + j) (r.getD (i + j) 0 + n.getD i 0 * m.getD j 0)) i (j + 1) := by
  have hb := prod_bound (hn.2 i) (hm.2 j)
  have h1 := h.low (i + j)
  have h2 := h.high (i + j)
  refine ⟨by simpa using h.len, ?_, fun t => ?_, fun t => ?_⟩
  · rw [val_set h.len _ hij, Int.add_emod, h.sum, ← Int.add_emod]
    congr 1
    rw [Int.pow_add]
    simp only [pv]
    grind
  · by_cases e : i + j = t
    · subst e; rw [getD_set_same (by rw [h.len]; omega)]; omega
    · rw [getD_set_other e]; exact h.low t
  · by_cases e : i + j = t
    · subst e; rw [getD_set_same (by rw [h.len]; omega)]; omega
    · rw [getD_set_other e]; have := h.high t; omega

theorem Prods.high_step {n m r : List Int} {i j : Nat} (h : Prods n m r i j) (hn : Lim 134217728 n) (hm : Lim 67108864 m) (hij : 5 ≤ i + j) (hi : i < 5) (hj : j < 5) :
    Prods n m (r.set (i + j - 5) (r.getD (i + j - 5) 0 + n.getD i 0 * m.getD j 0 * 5)) i (j + 1) := by
  have hb := prod_bound (hn.2 i) (hm.2 j)
  have h1 := h.low (i + j - 5)
  have h2 := h.high (i + j - 5)
  refine ⟨by simpa using h.len, ?_, fun t => ?_, fun t => ?_⟩
  · rw [val_set h.len _ (by omega), Int.add_emod, h.sum, ← Int.add_emod]
    have e : (67108864 : Int) ^ i * 67108864 ^ j = 67108864 ^ (i + j - 5) * (pp + 5) := by
      rw [← Int.pow_add, show pp + 5 = (67108864 : Int) ^ 5 by unfold pp; rfl, ← Int.pow_add]; congr 1; omega
    have e2 : pv n i * val m + n.getD i 0 * 67108864 ^ i * pv m (j + 1) = pv n i * val m + n.getD i 0 * 67108864 ^ i * pv m j + (r.getD (i + j - 5) 0 + n.getD i 0 * m.getD j 0 * 5 - r.getD (i + j - 5) 0) * 67108864 ^ (i + j - 5) + pp * (n.getD i 0 * m.getD j 0 * 67108864 ^ (i + j - 5)) := by
      simp only [pv]
      grind
    rw [e2, Int.add_mul_emod_self_left]
  · by_cases e : i + j - 5 = t
    · subst e; rw [getD_set_same (by rw [h.len]; omega)]; omega
    · rw [getD_set_other e]; exact h.low t
  · by_cases e : i + j - 5 = t
    · subst e; rw [getD_set_same (by rw [h.len]; omega)]; omega
    · rw [getD_set_other e]; have := h.high t; omega

theorem Prods.row {n m r : List Int} {i : Nat} (h : Prods n m r i 5) (hm : m.length = 5) : Prods n m r (i + 1) 0 := by
  refine ⟨h.len, ?_, h.low, fun t => ?_⟩
  · rw [h.sum, pv_five hm]
    congr 1
    simp only [pv]
    grind
  · have := h.high t; omega

theorem Prods.five {n m r : List Int} (h : Prods n m r 5 0) (hn : n.length = 5) : Lim 1152921504606846976 r ∧ val r % pp = (val n * val m) % pp := by
  refine ⟨⟨h.len, fun t => ⟨h.low t, ?_⟩⟩, ?_⟩
  · have := h.high t; omega
  · rw [h.sum, pv_five hn]; congr 1; simp only [pv]; grind

/-- adding five runs over just where a number is at least the modulus -/
theorem least_over {n m : List Int} {o : Int} (hn : Lim 67108864 n) (hc : Carr (n.set 0 (n.getD 0 0 + 5)) m 5 o) : Lim 67108864 m ∧ (0 < o → val m = val n % pp) ∧ (¬ 0 < o → val n = val n % pp) := by
  obtain ⟨h1, h2⟩ := hc.five
  refine ⟨h1, ?_⟩
  have o1 := hc.lo
  obtain ⟨n0, n1, n2, n3, n4, rfl, b0, b1, b2, b3, b4⟩ := hn.split
  obtain ⟨m0, m1, m2, m3, m4, rfl, c0, c1, c2, c3, c4⟩ := h1.split
  simp only [List.set_cons_zero, List.getD_cons_zero] at h2
  have v1 : val [n0 + 5, n1, n2, n3, n4] = val [n0, n1, n2, n3, n4] + 5 := by rw [val5, val5]; omega
  have v2 : 0 ≤ val [n0, n1, n2, n3, n4] ∧ val [n0, n1, n2, n3, n4] < 1361129467683753853853498429727072845824 := by rw [val5]; omega
  have v3 : 0 ≤ val [m0, m1, m2, m3, m4] ∧ val [m0, m1, m2, m3, m4] < 1361129467683753853853498429727072845824 := by rw [val5]; omega
  rw [v1] at h2
  generalize val [n0, n1, n2, n3, n4] = V at *
  generalize val [m0, m1, m2, m3, m4] = M at *
  unfold pp
  constructor
  · intro ho
    obtain rfl : o = 1 := by omega
    omega
  · intro ho
    obtain rfl : o = 0 := by omega
    omega
end Go.Proofs.YtakgfdbjgeopdaaGreatDoor
/-
  Numbers in bytes, and Poly1305 in plain numbers. No program is named here.
-/
namespace Go.Proofs.YtakgfdbjgeopdaaGreatDoor
open Go.RowKit

/-- the number of the first k bytes, the lowest one first -/
def leP (l : List Int) : Nat → Int
  | 0 => 0
  | k + 1 => leP l k + l.getD k 0 * 256 ^ k
def leN (l : List Int) : Int := leP l l.length

theorem leP_bound {l : List Int} (h : ∀ x ∈ l, 0 ≤ x ∧ x < 256) (k : Nat) : 0 ≤ leP l k ∧ leP l k < 256 ^ k := by
  induction k with
  | zero => simp [leP]
  | succ k ih =>
    have hb := getD_byte h k
    have hp : (0 : Int) < 256 ^ k := Int.pow_pos (by omega)
    have h1 : 0 ≤ l.getD k 0 * 256 ^ k := Int.mul_nonneg hb.1 (by omega)
    have h2 : l.getD k 0 * 256 ^ k ≤ 255 * 256 ^ k := Int.mul_le_mul_of_nonneg_right (by omega) (by omega)
    rw [leP, Int.pow_succ]
    omega

/-- a number past its list's end is the list's -/
theorem leP_past {l : List Int} (k : Nat) (h : l.length ≤ k) : leP l k = leN l := by
  obtain ⟨d, rfl⟩ : ∃ d, k = l.length + d := ⟨k - l.length, by omega⟩
  clear h
  induction d with
  | zero => rfl
  | succ d ih => rw [← Nat.add_assoc, leP, ih, getD_past (by omega)]; omega

theorem leP_congr {l m : List Int} (k : Nat) (h : ∀ j, j < k → l.getD j 0 = m.getD j 0) : leP l k = leP m k := by
  induction k with
  | zero => rfl
  | succ k ih => rw [leP, leP, ih (fun j hj => h j (by omega)), h k (by omega)]

theorem leP_append {l m : List Int} (k : Nat) : leP (l ++ m) (l.length + k) = leN l + 256 ^ l.length * leP m k := by
  induction k with
  | zero =>
    simp only [Nat.add_zero, leP, Int.mul_zero, Int.add_zero]
    unfold leN
    exact leP_congr _ (fun j hj => by simp [List.getD, List.getElem?_append_left hj])
  | succ k ih =>
    rw [← Nat.add_assoc, leP, ih, leP, Int.mul_add, Int.pow_add]
    have : (l ++ m).getD (l.length + k) 0 = m.getD k 0 := by simp [List.getD, List.getElem?_append_right]
    rw [this]
    grind
theorem leN_append (l m : List Int) : leN (l ++ m) = leN l + 256 ^ l.length * leN m := by
  have h := leP_append (l := l) (m := m) m.length
  rw [← List.length_append] at h
  exact h
theorem leN_nil : leN [] = 0 := rfl
theorem leN_one (x : Int) : leN [x] = x := by simp [leN, leP]
theorem leN_zeros (n : Nat) : leN (List.replicate n 0) = 0 := by
  unfold leN
  generalize (List.replicate n (0 : Int)).length = k
  induction k with
  | zero => rfl
  | succ k ih =>
    rw [leP, ih]
    have : (List.replicate n (0 : Int)).getD k 0 = 0 := by
      rcases Nat.lt_or_ge k n with h | h
      · simp [List.getD, h]
      · exact getD_past (by simpa using h)
    rw [this]; omega

/-- what stands after k bytes that were read -/
structure Reads (b r : List Int) (k : Nat) : Prop where
  len : r.length = 5
  sum : val r = leP b k
  low : ∀ t, 0 ≤ r.getD t 0
  high : ∀ t, r.getD t 0 ≤ (k : Int) * 17179869184
theorem Reads.zero (b : List Int) : Reads b [0, 0, 0, 0, 0] 0 := by
  refine ⟨rfl, rfl, fun t => ?_, fun t => ?_⟩
  · match t with
    | 0 | 1 | 2 | 3 | 4 => simp
    | t + 5 => simp [List.getD]
  · match t with
    | 0 | 1 | 2 | 3 | 4 => simp
    | t + 5 => simp [List.getD]
theorem Reads.succ {b r : List Int} {k : Nat} (h : Reads b r k) (hb : 0 ≤ b.getD k 0 ∧ b.getD k 0 < 256) (q : Nat) (m : Int) (hq : q < 5) (hm : 0 ≤ m ∧ m ≤ 33554432) (he : m * 67108864 ^ q = 256 ^ k) : Reads b (r.set q (r.getD q 0 + b.getD k 0 * m)) (k + 1) := by
  have h1 : 0 ≤ b.getD k 0 * m := Int.mul_nonneg hb.1 hm.1
  have h2 : b.getD k 0 * m ≤ 256 * 33554432 := Int.mul_le_mul (by omega) hm.2 hm.1 (by omega)
  refine ⟨by simpa using h.len, ?_, fun t => ?_, fun t => ?_⟩
  · rw [val_set h.len q hq, h.sum, leP, ← he]
    grind
  · have := h.low q
    by_cases e : q = t
    · subst e; rw [getD_set_same (by rw [h.len]; omega)]; omega
    · rw [getD_set_other e]; exact h.low t
  · have := h.high q
    by_cases e : q = t
    · subst e; rw [getD_set_same (by rw [h.len]; omega)]; omega
    · rw [getD_set_other e]; have := h.high t; omega
end Go.Proofs.YtakgfdbjgeopdaaGreatDoor
/-
  Poly1305 in plain numbers. No program is named here.
-/
namespace Go.Proofs.YtakgfdbjgeopdaaGreatDoor
open Go.RowKit

/-- the piece of the data at a place -/
def piece (l : List Int) (k : Nat) : List Int := (l.drop (16 * k)).take 16
/-- what the first k pieces come to, under a factor -/
def accK (R : Int) (l : List Int) : Nat → Int
  | 0 => 0
  | k + 1 => (accK R l k + leN (piece l k ++ [1])) * R % pp
def pieces (l : List Int) : Nat := (l.length + 15) / 16
def accN (R : Int) (l : List Int) : Int := accK R l (pieces l)
theorem pp_pos : 0 < pp := by unfold pp; omega
theorem accK_range (R : Int) (l : List Int) (k : Nat) : 0 ≤ accK R l k ∧ accK R l k < pp := by
  cases k with
  | zero => exact ⟨by simp [accK], pp_pos⟩
  | succ k => exact ⟨Int.emod_nonneg _ (by have := pp_pos; omega), Int.emod_lt_of_pos _ pp_pos⟩

theorem acc_step {n m s t r : List Int} {R : Int} {l : List Int} {k : Nat} (hn : val n % pp = accK R l k % pp) (hm : val m % pp = leN (piece l k ++ [1]) % pp) (hs : val s = val n + val m) (hr : val r % pp = R % pp) (ht : val t % pp = (val s * val r) % pp) :
    val t % pp = accK R l (k + 1) % pp := by
  rw [ht, accK, Int.emod_emod_of_dvd _ (Int.dvd_refl _), Int.mul_emod, hs, Int.add_emod, hn, hm, hr, ← Int.add_emod, ← Int.mul_emod]
end Go.Proofs.YtakgfdbjgeopdaaGreatDoor
/-
  Slices that are cut, as one equation each.
-/
namespace Go.Proofs.YtakgfdbjgeopdaaGreatDoor
open Go.RowKit

theorem getD_dropped (l : List Int) (n i : Nat) : (l.drop n).getD i 0 = l.getD (n + i) 0 := by simp [List.getD]
theorem getD_taken (l : List Int) (n i : Nat) (h : i < n) : (l.take n).getD i 0 = l.getD i 0 := by simp [List.getD, h]

theorem Sl.window {w : World} {a : Option Addr} {n cap : Nat} {l : List Int} (h : Sl w (.slice a n cap) l) (lo hi : Nat) (hlo : lo ≤ hi) (hhi : hi ≤ l.length) : Sl w (sliced a lo hi cap 1) ((l.take hi).drop lo) := by
  have hd := (h.take hi hhi).len
  have hb := h.byte
  obtain ⟨⟨a', cap', e, hc, hn, h1⟩, hla, hba⟩ := h
  simp only [Value.slice.injEq] at e
  obtain ⟨rfl, rfl, rfl⟩ := e
  have hl : ((l.take hi).drop lo).length = hi - lo := by rw [List.length_drop, List.length_take]; omega
  have hbb : ∀ x ∈ (l.take hi).drop lo, 0 ≤ x ∧ x < 256 := fun x hx => hb x (List.mem_of_mem_take (List.mem_of_mem_drop hx))
  cases a with
  | none =>
    have c0 := hn rfl
    subst c0
    have h0 : l.length = 0 := by omega
    refine ⟨⟨_, _, by rw [hl]; rfl, by omega, fun _ => by omega, .inl (List.eq_nil_of_length_eq_zero (by omega))⟩, by omega, hbb⟩
  | some ad =>
    refine ⟨⟨_, _, by rw [hl]; rfl, by omega, (by intro h; split at h <;> simp at h), ?_⟩, by omega, hbb⟩
    rcases Nat.eq_or_lt_of_le hlo with he | hlt
    · exact .inl (List.eq_nil_of_length_eq_zero (by omega))
    · rcases h1 with rfl | ⟨b, off, e2, hbs, hcell⟩
      · simp at hhi; omega
      · simp only [Option.some.injEq] at e2
        subst e2
        refine .inr ⟨b, off + lo, ?_, hbs, fun i hi2 => ?_⟩
        · rw [if_neg (by omega)]
          simp [Addr.add]
        · rw [hl] at hi2
          rw [Nat.add_assoc, hcell (lo + i) (by omega), getD_dropped, getD_taken _ _ _ (by omega)]

theorem size5w (w : World) : (Go.sizeOf 5).run Tryz.prog w = .ok 1 w := by
  obtain ⟨i, hi, _, hsz, _⟩ := info_parts info5
  simp [sizeOf, typeInfo, hi, hsz]

set_option maxRecDepth 100000 in
theorem Sl.upTo {w : World} {a : Option Addr} {n cap : Nat} {l : List Int} (h : Sl w (.slice a n cap) l) (hi : Nat) (hhi : hi ≤ l.length) :
    ∃ a' c', (∀ W, (Instr.slice 26 (.slice a n cap) none (some (.int .i64 (hi : Int))) none).run Tryz.prog W = .ok (.slice a' hi c') W) ∧ Sl w (.slice a' hi c') (l.take hi) := by
  have hw := h.window 0 hi (by omega) hhi
  obtain ⟨⟨a', cap', e, hc, hn, h1⟩, hla, hba⟩ := h
  simp only [Value.slice.injEq] at e
  obtain ⟨rfl, rfl, rfl⟩ := e
  refine ⟨_, _, fun W => ?_, by simpa [sliced] using hw⟩
  rw [run_slice_h (P := Tryz.prog) W 26 a _ cap Tryz.underlying26 .i64 _ (by omega) (by omega)]
  have e : Tryz.prog.elem 26 = 5 := by kernel_rfl
  rw [e, size5w]
  simp [Result.andThen, sliced]
set_option maxRecDepth 100000 in
theorem Sl.from {w : World} {a : Option Addr} {n cap : Nat} {l : List Int} (h : Sl w (.slice a n cap) l) (lo : Nat) (hlo : lo ≤ l.length) :
    ∃ a' c', (∀ W, (Instr.slice 26 (.slice a n cap) (some (.int .i64 (lo : Int))) none none).run Tryz.prog W = .ok (.slice a' (n - lo) c') W) ∧ Sl w (.slice a' (n - lo) c') (l.drop lo) := by
  have hw := h.window lo l.length hlo (Nat.le_refl _)
  obtain ⟨⟨a', cap', e, hc, hn, h1⟩, hla, hba⟩ := h
  simp only [Value.slice.injEq] at e
  obtain ⟨rfl, rfl, rfl⟩ := e
  refine ⟨_, _, fun W => ?_, by simpa [sliced] using hw⟩
  rw [run_slice_l (P := Tryz.prog) W 26 a _ cap Tryz.underlying26 .i64 _ (by omega) (by omega)]
  have e : Tryz.prog.elem 26 = 5 := by kernel_rfl
  rw [e, size5w]
  simp [Result.andThen, sliced]
end Go.Proofs.YtakgfdbjgeopdaaGreatDoor
/-
  The walks of carrying.
-/
namespace Go.Proofs.YtakgfdbjgeopdaaGreatDoor
open Go.RowKit

theorem and26 (x : Int) (h0 : 0 ≤ x) (h1 : x < 18446744073709551616) : bits .and .u64 x 67108863 = x % 67108864 := by
  obtain ⟨n, rfl⟩ := Int.eq_ofNat_of_zero_le h0
  rw [show (67108863 : Int) = ((67108863 : Nat) : Int) from rfl, u64_and_nat _ _ (by omega) (by omega), show (67108863 : Nat) = 2 ^ 26 - 1 from rfl, Nat.and_two_pow_sub_one_eq_mod]
  omega

theorem nInfo {l : List Int} (h : l.length = 5) : (Tryz.prog.info? 273).map (·.size) = some (nArr l).size := by rw [nArr_size, h]; kernel_rfl

theorem below_row {B : Nat} {a w : World} (h : Below B a w) {g : Nat} (hg : B ≤ g) (cs : Array Value) : Below B a (w.setRow g cs) :=
  h.trans ⟨rfl, rfl, rfl, by simp, fun k hk => setRow_other w g k cs (by omega)⟩

theorem results_cell_row_tmp {P : Program} {fn : Func} {p u : Tmp} {ty : TypeId} (h : fn.results = #[.cell p ty, .tmp u]) (tmps : Array Value) (w : World) (g : Nat) (t : TypeId) (cs : Array Value) (fr : Nat × Nat) (d : TypeDesc)
    (hp : tmps.getD p undef = .pointer (some ⟨g, 0, none⟩)) (hg : w.heap[g]? = some (.cells cs t fr))
    (hu : P.underlying ty = some d) (hd : (match d with | .struct _ | .array _ _ => true | _ => false) = true) (hi : (P.info? ty).map (·.size) = some cs.size) {v : Value} (hv : tmps.getD u undef = v) :
    (results fn tmps).run P w = .ok (.tuple #[.agg cs, v]) w := by
  have hp' : tmps[p]?.getD undef = .pointer (some ⟨g, 0, none⟩) := by simpa using hp
  rw [results_cell_tmp h, hv]
  simp [hp', asAddr, run_loadVar_row w g t ty cs fr d hg hu hd hi]

/-- for a look at what a goal is, ahead of a law -/
theorem wpList_look {P : Program} {ops : Array Oper} {Q : Exit → Act → World → Prop} {l : List Oper} {a : Act} {w : World} (h : wpList P ops Q l a w) : wpList P ops Q l a w := h

set_option maxHeartbeats 1000000 in
set_option maxRecDepth 100000 in
theorem once_any (l : List Int) (w : World) (hl : Lim 9223372036854775808 l) :
    Calls Tryz.prog 256 #[.agg (nArr l)] w fun e w' => ∃ m o, e = .returned (.tuple #[.agg (nArr m), .int .u64 o]) ∧ Carr l m 5 o ∧ Below w.heap.size w w' := by
  have h5 := hl.1
  have hsz := nInfo h5
  go_enter Tryz.func256, Tryz.ntmps256
  go_wp2_with fail
  go_loopw [4, 6] (fun o i wr => ∃ (k : Nat) (m : List Int) (ov : Int), k ≤ 5 ∧ i = .int .i64 k ∧ o = .int .u64 ov ∧ Carr l m k ov ∧ wr.heap[w.heap.size]? = some (.cells (nArr m) 273 (0, 0)) ∧ wr.heap[w.heap.size + 1]? = some (.cells (nArr [0, 0, 0, 0, 0]) 273 (0, 0)) ∧ Below w.heap.size w wr) (fun _ i _ => 5 - (intOf i).toNat)
  case atStart => 
    refine ⟨0, l, 0, by omega, rfl, rfl, Carr.zero h5, ?_, ?_, ?_⟩
    · exact heap_alloc2_old _ _ _
    · exact heap_alloc2_new _ _ _
    · exact ((Below.refl _ _).alloc (Nat.le_refl _) _).alloc (by simp) _
  case round =>
    obtain ⟨k, m, ov, hk, rfl, rfl, hc, hn, hr, hb⟩ := hrel
    by_cases hk5 : k < 5
    · have hki : (k : Int) < 5 := by omega
      have cn := (cell_of_row wr _ k _ _ _ hn).trans (nArr_get m k (by rw [hc.len]; omega))
      have fn := frozen_of_row wr _ k _ _ hn
      have hs := hc.succ hl hk5
      have o1 := hc.lo
      have o2 := hc.hi
      have e1 : m.getD k 0 = l.getD k 0 := hc.rest k (by omega)
      have b1 := hl.2 k
      rw [← e1] at b1
      have HS : Hid (Carr l (m.set k ((m.getD k 0 + ov) % 67108864)) (k + 1) ((m.getD k 0 + ov) / 67108864)) := hs
      clear hs hc e1
      generalize m.getD k 0 = x at cn HS b1
      obtain ⟨b1, b2⟩ := b1
      have ha := and26 (x + ov) (by omega) (by omega)
      go_wp2
      go_roundw
      case rel =>
        refine ⟨k + 1, _, _, by omega, by go_num, rfl, HS.out, ?_, ?_, ?_⟩
        · have h1 := n_store (n_store hn k (x + ov)) k ((x + ov) % 67108864)
          rw [List.set_set] at h1
          exact h1
        · rw [heap_setCell_other _ _ _ _ (by simp), heap_setCell_other _ _ _ _ (by simp)]; exact hr
        · exact (hb.setCell (p := ⟨w.heap.size, k, none⟩) (Nat.le_refl _) _).setCell (p := ⟨w.heap.size, k, none⟩) (Nat.le_refl _) _
      case measure => simp [intOf]; omega
    · have HK : Hid (k = 5) := by unfold Hid; omega
      have hki : ¬ (k : Int) < 5 := by omega
      have hsz1 := nInfo hc.len
      go_wp2_with ((with_reducible (refine wpList_look ?_)); first
        | (refine wpList_load_row rfl 273 _ rfl w.heap.size rfl 273 _ (0, 0) _ hn Tryz.underlying273 rfl hsz1 ?_)
        | (refine wpList_store_row rfl 273 _ _ rfl (w.heap.size + 1) _ rfl rfl 273 _ hr hsz1 (by rw [nArr_size, nArr_size, hc.len]; rfl) (nArr_one m) ?_))
      refine bodyPost_ret (v := .tuple #[.agg (nArr m), .int .u64 ov]) (results_cell_row_tmp rfl _ _ (w.heap.size + 1) 273 _ (0, 0) _ rfl (setRow_heap wr (w.heap.size + 1) _ _ 273 _ hr) Tryz.underlying273 rfl hsz1 rfl) rfl ⟨m, ov, rfl, by have := HK.out; subst this; exact hc, below_row hb (by omega) _⟩

/-- what stands after so many of the three rounds -/
def Rnd : Nat → List Int → Prop
  | 0, m => Lim 1152921504606846976 m
  | 1, m => Lim 274877906944 m ∧ val m < 1361129467683753853853498429727072845824 + 274877906944
  | 2, m => Lim 274877906944 m ∧ val m < 1361129467683753853853498429727072845824
  | _, m => Lim 67108864 m
theorem Rnd.lim : ∀ {k : Nat} {m : List Int}, Rnd k m → Lim 9223372036854775808 m
  | 0, _, h => Lim.mono h (by omega)
  | 1, _, h => Lim.mono h.1 (by omega)
  | 2, _, h => Lim.mono h.1 (by omega)
  | _ + 3, _, h => Lim.mono (B := 67108864) h (by omega)
theorem mod_pp (a b o : Int) (h : a + 1361129467683753853853498429727072845824 * o = b) : (a + 5 * o) % pp = b % pp := by
  rw [← h, show a + 1361129467683753853853498429727072845824 * o = a + 5 * o + pp * o by unfold pp; omega, Int.add_mul_emod_self_left]
theorem Rnd.succ {k : Nat} {l m : List Int} {o : Int} (h : Rnd k l) (hk : k < 3) (hc : Carr l m 5 o) : Rnd (k + 1) (m.set 0 (m.getD 0 0 + o * 5)) ∧ val (m.set 0 (m.getD 0 0 + o * 5)) % pp = val l % pp ∧ 0 ≤ m.getD 0 0 ∧ m.getD 0 0 < 67108864 ∧ 0 ≤ o ∧ o < 274877906944 := by
  obtain ⟨h1, h2⟩ := hc.five
  obtain ⟨m0, m1, m2, m3, m4, rfl, b0, b1, b2, b3, b4⟩ := h1.split
  have o1 := hc.lo
  have o2 := hc.hi
  simp only [List.set_cons_zero, List.getD_cons_zero]
  have hm := mod_pp _ _ _ h2
  rw [val5] at h2
  have e : val [m0 + o * 5, m1, m2, m3, m4] = val [m0, m1, m2, m3, m4] + 5 * o := by rw [val5, val5]; omega
  rw [← e] at hm
  refine ⟨?_, hm, b0.1, b0.2, o1, o2⟩
  obtain rfl | rfl | rfl : k = 0 ∨ k = 1 ∨ k = 2 := by omega
  · obtain ⟨l0, l1, l2, l3, l4, rfl, c0, c1, c2, c3, c4⟩ := Lim.split h
    rw [val5] at h2
    refine ⟨Lim.of5 (by omega) (by omega) (by omega) (by omega) (by omega), ?_⟩
    rw [val5]; omega
  · obtain ⟨h3, h4⟩ := h
    obtain ⟨l0, l1, l2, l3, l4, rfl, c0, c1, c2, c3, c4⟩ := Lim.split h3
    rw [val5] at h2 h4
    refine ⟨Lim.of5 (by omega) (by omega) (by omega) (by omega) (by omega), ?_⟩
    rw [val5]; omega
  · obtain ⟨h3, h4⟩ := h
    have ho : o = 0 := by omega
    subst ho
    show Lim 67108864 _
    exact Lim.of5 (by omega) (by omega) (by omega) (by omega) (by omega)

set_option maxHeartbeats 1000000 in
set_option maxRecDepth 100000 in
theorem carried_any (l : List Int) (w : World) (hl : Lim 1152921504606846976 l) :
    Calls Tryz.prog 255 #[.agg (nArr l)] w fun e w' => ∃ m, e = .returned (.agg (nArr m)) ∧ Lim 67108864 m ∧ val m % pp = val l % pp ∧ Below w.heap.size w w' := by
  have h5 := hl.1
  have hsz := nInfo h5
  go_enter Tryz.func255, Tryz.ntmps255
  go_wp2_with fail
  go_loopw [4] (fun i wr => ∃ (k : Nat) (m : List Int), k ≤ 3 ∧ i = .int .i64 k ∧ Rnd k m ∧ val m % pp = val l % pp ∧ wr.heap[w.heap.size]? = some (.cells (nArr m) 273 (0, 0)) ∧ wr.heap[w.heap.size + 1]? = some (.cells (nArr [0, 0, 0, 0, 0]) 273 (0, 0)) ∧ w.heap.size + 2 ≤ wr.heap.size ∧ Below w.heap.size w wr) (fun i _ => 3 - (intOf i).toNat)
  case atStart => 
    refine ⟨0, l, by omega, rfl, hl, rfl, ?_, ?_, by simp, ?_⟩
    · exact heap_alloc2_old _ _ _
    · exact heap_alloc2_new _ _ _
    · exact ((Below.refl _ _).alloc (Nat.le_refl _) _).alloc (by simp) _
  case round =>
    obtain ⟨k, m, hk, rfl, hc, hv, hn, hr, hz, hb⟩ := hrel
    have hm5 := hc.lim.1
    have hsz1 := nInfo hm5
    by_cases hk3 : k < 3
    · have hki : (k : Int) < 3 := by omega
      go_wp2_with ((with_reducible (refine wpList_look ?_)); refine wpList_load_row rfl 273 _ rfl w.heap.size rfl 273 _ (0, 0) _ hn Tryz.underlying273 rfl hsz1 ?_)
      refine (once_any m wr hc.lim).mono ?_
      rintro e w1 ⟨m1, o, rfl, hc1, hb1⟩
      obtain ⟨hs, hv1, x1, x2, o1, o2⟩ := hc.succ hk3 hc1
      have hl1 := hc1.len
      have hsz2 := nInfo hl1
      have hn1 := (hb1.block w.heap.size (by omega)).trans hn
      have hr1 := (hb1.block (w.heap.size + 1) (by omega)).trans hr
      have hz1 := hb1.size
      have hB1 : Below w.heap.size w w1 := hb.trans (hb1.mono (by omega))
      have hn2 := setRow_heap w1 w.heap.size (nArr m) (nArr m1) 273 (0, 0) hn1
      have hr2 : (w1.setRow w.heap.size (nArr m1)).heap[w.heap.size + 1]? = some (.cells (nArr [0, 0, 0, 0, 0]) 273 (0, 0)) := (setRow_other _ _ _ _ (by omega)).trans hr1
      have hB2 : Below w.heap.size w (w1.setRow w.heap.size (nArr m1)) := below_row hB1 (Nat.le_refl _) _
      have hz2 : (w1.setRow w.heap.size (nArr m1)).heap.size = w1.heap.size := by simp
      have cn := (cell_of_row _ _ 0 _ _ _ hn2).trans (nArr_get m1 0 (by omega))
      have fn := frozen_of_row _ _ 0 _ _ hn2
      have hs' : Hid (Rnd (k + 1) (m1.set 0 (m1.getD 0 0 + o * 5))) := hs
      have hv' : Hid (val (m1.set 0 (m1.getD 0 0 + o * 5)) % pp = val m % pp) := hv1
      have hst : Hid (((w1.setRow w.heap.size (nArr m1)).setCell ⟨w.heap.size, 0, none⟩ (.int .u64 (m1.getD 0 0 + o * 5))).heap[w.heap.size]? = some (.cells (nArr (m1.set 0 (m1.getD 0 0 + o * 5))) 273 (0, 0))) := n_store hn2 0 _
      clear hb hn hr hb1 hr1 hB1 hc hc1 hs hv1
      generalize m1.getD 0 0 = x at cn hs' hv' hst x1 x2
      go_wp2_with ((with_reducible (refine wpList_look ?_)); refine wpList_store_row rfl 273 _ _ rfl w.heap.size _ rfl rfl 273 _ hn1 hsz2 (by rw [nArr_size, nArr_size, hl1, hm5]) (nArr_one m1) ?_)
      go_roundw
      case rel =>
        refine ⟨k + 1, _, by omega, by go_num, hs'.out, hv'.out.trans hv, hst.out, ?_, ?_, ?_⟩
        · rw [heap_setCell_other _ _ _ _ (by simp)]; exact hr2
        · simp; omega
        · exact hB2.setCell (p := ⟨w.heap.size, 0, none⟩) (Nat.le_refl _) _
      case measure => simp [intOf]; omega
    · have hki : ¬ (k : Int) < 3 := by omega
      have hc3 : Lim 67108864 m := by
        obtain rfl : k = 3 := by omega
        exact hc
      go_wp2_with ((with_reducible (refine wpList_look ?_)); first
        | (refine wpList_load_row rfl 273 _ rfl w.heap.size rfl 273 _ (0, 0) _ hn Tryz.underlying273 rfl hsz1 ?_)
        | (refine wpList_store_row rfl 273 _ _ rfl (w.heap.size + 1) _ rfl rfl 273 _ hr hsz1 (by rw [nArr_size, nArr_size, hm5]; rfl) (nArr_one m) ?_))
      refine bodyPost_ret (v := .agg (nArr m)) (results_cell_row rfl _ _ (w.heap.size + 1) 273 _ (0, 0) _ rfl (setRow_heap wr (w.heap.size + 1) _ _ 273 _ hr) Tryz.underlying273 rfl hsz1) rfl ⟨m, rfl, hc3, hv, below_row hb (by omega) _⟩
end Go.Proofs.YtakgfdbjgeopdaaGreatDoor
