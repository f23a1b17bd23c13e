/-
  Channels, in plain lists: their cells, which numbers were met, what may be, what taking a number makes; and the heads of numbers. No program is named here.
-/
import Derived.Test.YtakgfdbjgeopdaaDoorKn1
namespace Go.Proofs.YtakgfdbjgeopdaaDoor
open Go.RowKit
set_option linter.unusedVariables false

theorem ret_num {a b : Int} (h : a = b) : Ending.returned (.int .i64 a) = .returned (.int .i64 b) := by rw [h]
/-- the cells of a channel: its key, how much was sent, its top, and which numbers below the top were met -/
def chA (k : Value) (s t : Int) (l : List Bool) : Array Value := (k :: .int .i64 s :: .int .i64 t :: l.map Value.bool).toArray
theorem chA_size (k : Value) (s t : Int) (l : List Bool) : (chA k s t l).size = l.length + 3 := by simp [chA]
theorem chA_key (k : Value) (s t : Int) (l : List Bool) : (chA k s t l)[0]? = some k := by simp [chA]
theorem chA_sent (k : Value) (s t : Int) (l : List Bool) : (chA k s t l)[1]? = some (.int .i64 s) := by simp [chA]
theorem chA_top (k : Value) (s t : Int) (l : List Bool) : (chA k s t l)[2]? = some (.int .i64 t) := by simp [chA]
theorem chA_seen (k : Value) (s t : Int) (l : List Bool) (i : Nat) (hi : i < l.length) : (chA k s t l)[3 + i]? = some (.bool (l.getD i false)) := by
  rw [Nat.add_comm]
  simp [chA, List.getD, List.getElem?_eq_getElem hi]
theorem eight (l : List Bool) (hl : l.length = 8) : ∃ b0 b1 b2 b3 b4 b5 b6 b7, l = [b0, b1, b2, b3, b4, b5, b6, b7] := by
  match l, hl with
  | [b0, b1, b2, b3, b4, b5, b6, b7], _ => exact ⟨b0, b1, b2, b3, b4, b5, b6, b7, rfl⟩
theorem chA_cells {w : World} {g : Nat} {k : Value} {s t : Int} {b0 b1 b2 b3 b4 b5 b6 b7 : Bool} {ty : TypeId} {fr : Nat × Nat} (h : w.heap[g]? = some (.cells (chA k s t [b0, b1, b2, b3, b4, b5, b6, b7]) ty fr)) :
    w.cell? ⟨g, 0, none⟩ = some k ∧ w.cell? ⟨g, 1, none⟩ = some (.int .i64 s) ∧ w.cell? ⟨g, 2, none⟩ = some (.int .i64 t) ∧ w.cell? ⟨g, 3, none⟩ = some (.bool b0) ∧ w.cell? ⟨g, 4, none⟩ = some (.bool b1) ∧ w.cell? ⟨g, 5, none⟩ = some (.bool b2) ∧ w.cell? ⟨g, 6, none⟩ = some (.bool b3) ∧ w.cell? ⟨g, 7, none⟩ = some (.bool b4) ∧ w.cell? ⟨g, 8, none⟩ = some (.bool b5) ∧ w.cell? ⟨g, 9, none⟩ = some (.bool b6) ∧ w.cell? ⟨g, 10, none⟩ = some (.bool b7) :=
  ⟨cell_of_row _ _ 0 _ _ _ h, cell_of_row _ _ 1 _ _ _ h, cell_of_row _ _ 2 _ _ _ h, cell_of_row _ _ 3 _ _ _ h, cell_of_row _ _ 4 _ _ _ h, cell_of_row _ _ 5 _ _ _ h, cell_of_row _ _ 6 _ _ _ h, cell_of_row _ _ 7 _ _ _ h, cell_of_row _ _ 8 _ _ _ h, cell_of_row _ _ 9 _ _ _ h, cell_of_row _ _ 10 _ _ _ h⟩
/-- the cells of a window -/
def wA (t : Int) (l : List Bool) : Array Value := (.int .i64 t :: l.map Value.bool).toArray
theorem wA_size (t : Int) (l : List Bool) : (wA t l).size = l.length + 1 := by simp [wA]
theorem wA_top (t : Int) (l : List Bool) : (wA t l)[0]? = some (.int .i64 t) := by simp [wA]
theorem wA_seen (t : Int) (l : List Bool) (i : Nat) (hi : i < l.length) : (wA t l)[1 + i]? = some (.bool (l.getD i false)) := by
  rw [Nat.add_comm]
  simp [wA, List.getD, List.getElem?_eq_getElem hi]
theorem wA_one (t : Int) (l : List Bool) : (wA t l).all (·.oneCell') = true := by simp [wA, Value.oneCell']
theorem wA_cells {w : World} {g : Nat} {t : Int} {b0 b1 b2 b3 b4 b5 b6 b7 : Bool} {ty : TypeId} {fr : Nat × Nat} (h : w.heap[g]? = some (.cells (wA t [b0, b1, b2, b3, b4, b5, b6, b7]) ty fr)) :
    w.cell? ⟨g, 0, none⟩ = some (.int .i64 t) ∧ w.cell? ⟨g, 1, none⟩ = some (.bool b0) ∧ w.cell? ⟨g, 2, none⟩ = some (.bool b1) ∧ w.cell? ⟨g, 3, none⟩ = some (.bool b2) ∧ w.cell? ⟨g, 4, none⟩ = some (.bool b3) ∧ w.cell? ⟨g, 5, none⟩ = some (.bool b4) ∧ w.cell? ⟨g, 6, none⟩ = some (.bool b5) ∧ w.cell? ⟨g, 7, none⟩ = some (.bool b6) ∧ w.cell? ⟨g, 8, none⟩ = some (.bool b7) :=
  ⟨cell_of_row _ _ 0 _ _ _ h, cell_of_row _ _ 1 _ _ _ h, cell_of_row _ _ 2 _ _ _ h, cell_of_row _ _ 3 _ _ _ h, cell_of_row _ _ 4 _ _ _ h, cell_of_row _ _ 5 _ _ _ h, cell_of_row _ _ 6 _ _ _ h, cell_of_row _ _ 7 _ _ _ h, cell_of_row _ _ 8 _ _ _ h⟩
/-- the numbers that were met, of the first k places -/
def metL (t : Int) (l : List Bool) : Nat → List Int
  | 0 => []
  | k + 1 => if l.getD k false then metL t l k ++ [t - 8 + (k : Int)] else metL t l k
theorem metL_length (t : Int) (l : List Bool) (k : Nat) : (metL t l k).length ≤ k := by
  induction k with
  | zero => simp [metL]
  | succ k ih =>
    rw [metL]
    split
    · rw [List.length_append, List.length_singleton]; omega
    · omega
/-- was the number x met? -/
def metB (t : Int) (l : List Bool) (x : Int) : Bool := decide (t - 8 ≤ x) && decide (x < t) && l.getD (x - (t - 8)).toNat false
theorem metB_at (t : Int) (l : List Bool) (k : Nat) (hk : k < 8) : metB t l (t - 8 + k) = l.getD k false := by
  unfold metB
  rw [decide_eq_true (by omega), decide_eq_true (by omega), show (t - 8 + (k : Int) - (t - 8)).toNat = k by omega]
  simp
theorem metB_lt {t : Int} {l : List Bool} {x : Int} (h : metB t l x = true) : t - 8 ≤ x ∧ x < t := by
  unfold metB at h
  simp at h
  omega
theorem metB_of {t : Int} {l : List Bool} {x : Int} (h1 : t - 8 ≤ x) (h2 : x < t) : metB t l x = l.getD (x - (t - 8)).toNat false := by
  unfold metB
  rw [decide_eq_true h1, decide_eq_true h2]
  simp
theorem metB_ge {t : Int} {l : List Bool} {x : Int} (h : t ≤ x) : metB t l x = false := by
  unfold metB
  rw [decide_eq_false (show ¬ x < t by omega)]
  simp
theorem metB_low {t : Int} {l : List Bool} {x : Int} (h : x < t - 8) : metB t l x = false := by
  unfold metB
  rw [decide_eq_false (show ¬ t - 8 ≤ x by omega)]
  simp

/-- a channel that may be -/
structure OkC (key : List Int) (s t : Int) (l : List Bool) : Prop where
  key : key.length = 32
  s0 : 0 ≤ s
  s1 : s ≤ 1073741824
  t0 : 0 ≤ t
  t1 : t ≤ 1073741824
  low : ∀ i : Nat, i < 8 → l.getD i false = true → 0 ≤ t - 8 + (i : Int)
  top : t = 0 ∨ l.getD 7 false = true
theorem okC_iff (key : List Int) (s t : Int) (l : List Bool) : OkC key s t l ↔ (key.length = 32 ∧ 0 ≤ s ∧ s ≤ 1073741824 ∧ 0 ≤ t ∧ t ≤ 1073741824 ∧ (∀ i, i < 8 → l.getD i false = true → 0 ≤ t - 8 + (i : Int)) ∧ (t = 0 ∨ l.getD 7 false = true)) :=
  ⟨fun h => ⟨h.1, h.2, h.3, h.4, h.5, h.6, h.7⟩, fun h => ⟨h.1, h.2.1, h.2.2.1, h.2.2.2.1, h.2.2.2.2.1, h.2.2.2.2.2.1, h.2.2.2.2.2.2⟩⟩
instance (key : List Int) (s t : Int) (l : List Bool) : Decidable (OkC key s t l) := decidable_of_iff _ (okC_iff key s t l).symm
/-- what a window may be -/
def mayB (t : Int) (l : List Bool) : Bool := ((List.range 8).all fun i => !l.getD i false || decide (0 ≤ t - 8 + (i : Int))) && (decide (t = 0) || l.getD 7 false)
theorem mayB_iff (t : Int) (l : List Bool) : mayB t l = true ↔ ((∀ i : Nat, i < 8 → l.getD i false = true → 0 ≤ t - 8 + (i : Int)) ∧ (t = 0 ∨ l.getD 7 false = true)) := by
  unfold mayB
  rw [Bool.and_eq_true, Bool.or_eq_true, List.all_eq_true]
  constructor
  · rintro ⟨h1, h2⟩
    refine ⟨fun i hi hb => ?_, h2.imp of_decide_eq_true id⟩
    have h := h1 i (List.mem_range.2 hi)
    rw [hb] at h
    simpa using h
  · rintro ⟨h1, h2⟩
    refine ⟨fun i hi => ?_, h2.imp decide_eq_true id⟩
    cases hb : l.getD i false with
    | true => simpa using h1 i (List.mem_range.1 hi) hb
    | false => rfl
/-- what Check says -/
def checkE (key : List Int) (s t : Int) (l : List Bool) : Int := if OkC key s t l then 0 else 5

/-- is a number old? -/
def oldB (t : Int) (l : List Bool) (n : Int) : Bool := decide (n < t) && (decide (n < t - 8) || metB t l n)
/-- behind taking the number n -/
def takT (t n : Int) : Int := if t ≤ n then n + 1 else t
def takS (t : Int) (l : List Bool) (n : Int) : List Bool := (List.range 8).map fun k : Nat => decide (takT t n - 8 + (k : Int) = n) || metB t l (takT t n - 8 + (k : Int))
theorem takS_length (t : Int) (l : List Bool) (n : Int) : (takS t l n).length = 8 := by simp [takS]
theorem takS_at (t : Int) (l : List Bool) (n : Int) (k : Nat) (hk : k < 8) : (takS t l n).getD k false = (decide (takT t n - 8 + (k : Int) = n) || metB t l (takT t n - 8 + (k : Int))) := by
  simp [takS, List.getD, hk]
theorem takT_le (t n : Int) : t ≤ takT t n ∧ n < takT t n := by unfold takT; split <;> omega
theorem metB_take (t : Int) (l : List Bool) (n x : Int) : metB (takT t n) (takS t l n) x = (decide (takT t n - 8 ≤ x) && (decide (x = n) || metB t l x)) := by
  have ht := takT_le t n
  by_cases h1 : takT t n - 8 ≤ x
  · by_cases h2 : x < takT t n
    · rw [metB_of h1 h2, takS_at _ _ _ _ (by omega), show takT t n - 8 + ((x - (takT t n - 8)).toNat : Int) = x by omega, decide_eq_true h1]
      simp
    · rw [metB_ge (by omega), metB_ge (show t ≤ x by omega), decide_eq_false (show ¬ x = n by omega)]
      simp
  · rw [metB_low (by omega), decide_eq_false h1]
    simp

/-- what may be may be behind taking too -/
theorem OkC.take {key : List Int} {s t : Int} {l : List Bool} (h : OkC key s t l) (n : Int) (h0 : 0 ≤ n) (h1 : n < 1073741824) : OkC key s (takT t n) (takS t l n) := by
  have ht := takT_le t n
  have hT : takT t n ≤ 1073741824 := by have := h.t1; unfold takT; split <;> omega
  refine ⟨h.1, h.2, h.3, by have := h.t0; omega, hT, ?_, .inr ?_⟩
  · intro i hi hm
    rw [takS_at _ _ _ _ hi] at hm
    rw [Bool.or_eq_true] at hm
    rcases hm with hm | hm
    · have := of_decide_eq_true hm
      omega
    · have hb := metB_lt hm
      rw [metB_of hb.1 hb.2] at hm
      have := h.low _ (by omega) hm
      omega
  · rw [takS_at _ _ _ _ (by omega)]
    by_cases hc : t ≤ n
    · have : takT t n = n + 1 := by unfold takT; rw [if_pos hc]
      rw [decide_eq_true (by omega)]
      simp
    · have hT2 : takT t n = t := by unfold takT; rw [if_neg hc]
      rw [hT2, metB_at t l 7 (by omega)]
      rcases h.top with h7 | h7
      · have := h.t0; omega
      · rw [h7]; simp
theorem OkC.sent {key : List Int} {s t : Int} {l : List Bool} (h : OkC key s t l) (s' : Int) (h0 : 0 ≤ s') (h1 : s' ≤ 1073741824) : OkC key s' t l := ⟨h.1, h0, h1, h.4, h.5, h.6, h.7⟩
def noB : List Bool := List.replicate 8 false
theorem noB_length : noB.length = 8 := rfl
theorem noB_at (k : Nat) : noB.getD k false = false := by
  rw [noB, List.getD_eq_getElem?_getD, List.getElem?_replicate]
  split <;> rfl
theorem metB_no (t x : Int) : metB t noB x = false := by unfold metB; rw [noB_at]; simp
theorem OkC.new {key : List Int} (hk : key.length = 32) (s : Int) (h0 : 0 ≤ s) (h1 : s ≤ 1073741824) : OkC key s 0 noB :=
  ⟨hk, h0, h1, by omega, by omega, (fun i _ h => by rw [noB_at] at h; exact absurd h (by simp)), .inl rfl⟩
theorem oldB_ge {t : Int} {l : List Bool} {n : Int} (h : t ≤ n) : oldB t l n = false := by unfold oldB; rw [decide_eq_false (by omega)]; simp
theorem oldB_of {t : Int} {l : List Bool} {n : Int} (h : t - 8 ≤ n) : oldB t l n = metB t l n := by
  by_cases h2 : n < t
  · unfold oldB; rw [decide_eq_true h2, decide_eq_false (show ¬ n < t - 8 by omega)]; simp
  · rw [oldB_ge (by omega), metB_ge (by omega)]
theorem oldB_low {t : Int} {l : List Bool} {n : Int} (h : n < t - 8) : oldB t l n = true := by unfold oldB; rw [decide_eq_true (show n < t by omega), decide_eq_true h]; simp

/-- the head of a number, the nonce of a head, the number of a head -/
def headL (n : Int) : List Int := [n / 16777216 % 256, n / 65536 % 256, n / 256 % 256, n % 256]
def nonceL (h : List Int) : List Int := List.replicate 8 0 ++ h
def numL (h : List Int) : Int := 16777216 * h.getD 0 0 + 65536 * h.getD 1 0 + 256 * h.getD 2 0 + h.getD 3 0
theorem headL_length (n : Int) : (headL n).length = 4 := rfl
theorem headL_byte (n : Int) : ∀ x ∈ headL n, 0 ≤ x ∧ x < 256 := by
  intro x hx
  simp only [headL, List.mem_cons, List.not_mem_nil, or_false] at hx
  rcases hx with rfl | rfl | rfl | rfl <;> omega
theorem nonceL_length {h : List Int} (hh : h.length = 4) : (nonceL h).length = 12 := by simp [nonceL, hh]
theorem nonceL_byte {h : List Int} (hb : ∀ x ∈ h, 0 ≤ x ∧ x < 256) : ∀ x ∈ nonceL h, 0 ≤ x ∧ x < 256 := by
  intro x hx
  rcases List.mem_append.1 hx with h1 | h1
  · rw [(List.mem_replicate.1 h1).2]; omega
  · exact hb x h1
theorem numL_head (n : Int) (h0 : 0 ≤ n) (h1 : n < 4294967296) : numL (headL n) = n := by
  show 16777216 * (n / 16777216 % 256) + 65536 * (n / 65536 % 256) + 256 * (n / 256 % 256) + n % 256 = n
  omega
theorem four (h : List Int) (hh : h.length = 4) : ∃ a b c d, h = [a, b, c, d] := by
  match h, hh with
  | [a, b, c, d], _ => exact ⟨a, b, c, d, rfl⟩
theorem headL_num {h : List Int} (hh : h.length = 4) (hb : ∀ x ∈ h, 0 ≤ x ∧ x < 256) : headL (numL h) = h := by
  obtain ⟨a, b, c, d, rfl⟩ := four h hh
  have h1 := hb a (by simp)
  have h2 := hb b (by simp)
  have h3 := hb c (by simp)
  have h4 := hb d (by simp)
  show [(16777216 * a + 65536 * b + 256 * c + d) / 16777216 % 256, (16777216 * a + 65536 * b + 256 * c + d) / 65536 % 256, (16777216 * a + 65536 * b + 256 * c + d) / 256 % 256, (16777216 * a + 65536 * b + 256 * c + d) % 256] = [a, b, c, d]
  congr 1
  · omega
  congr 1
  · omega
  congr 1
  · omega
  congr 1
  omega
theorem numL_range {h : List Int} (hh : h.length = 4) (hb : ∀ x ∈ h, 0 ≤ x ∧ x < 256) : 0 ≤ numL h ∧ numL h < 4294967296 := by
  obtain ⟨a, b, c, d, rfl⟩ := four h hh
  have h1 := hb a (by simp)
  have h2 := hb b (by simp)
  have h3 := hb c (by simp)
  have h4 := hb d (by simp)
  show 0 ≤ 16777216 * a + 65536 * b + 256 * c + d ∧ 16777216 * a + 65536 * b + 256 * c + d < 4294967296
  omega

end Go.Proofs.YtakgfdbjgeopdaaDoor
