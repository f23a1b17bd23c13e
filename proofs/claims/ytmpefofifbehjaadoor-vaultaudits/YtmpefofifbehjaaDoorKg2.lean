/-
  Channels, in plain lists: their cells, which numbers were met, what may be, what taking a number makes; and the heads of numbers. No program is named here.
-/
import Derived.StillTail
import Derived.BigQuiet
import Derived.Test.YtmpefofifbehjaaDoorKg1
import Derived.Test.YtmpefofifbehjaaDoorProg
namespace Go.Proofs.YtmpefofifbehjaaDoor
open Go.RowKit
set_option linter.unusedVariables false

theorem ret_num {a b : Int} (h : a = b) : Ending.returned (.int .i64 a) = .returned (.int .i64 b) := by rw [h]
/-- the cells of a channel: its key, how much was sent, its top, and which numbers below the top were met -/
def chA (k : Value) (s t : Int) (l : List Bool) : Array Value := (k :: .int .i64 s :: .int .i64 t :: l.map Value.bool).toArray
theorem chA_size (k : Value) (s t : Int) (l : List Bool) : (chA k s t l).size = l.length + 3 := by simp [chA]
theorem chA_key (k : Value) (s t : Int) (l : List Bool) : (chA k s t l)[0]? = some k := by simp [chA]
theorem chA_sent (k : Value) (s t : Int) (l : List Bool) : (chA k s t l)[1]? = some (.int .i64 s) := by simp [chA]
theorem chA_top (k : Value) (s t : Int) (l : List Bool) : (chA k s t l)[2]? = some (.int .i64 t) := by simp [chA]
theorem chA_seen (k : Value) (s t : Int) (l : List Bool) (i : Nat) (hi : i < l.length) : (chA k s t l)[3 + i]? = some (.bool (l.getD i false)) := by
  rw [Nat.add_comm]
  simp [chA, List.getD, List.getElem?_eq_getElem hi]
theorem eight (l : List Bool) (hl : l.length = 8) : ∃ b0 b1 b2 b3 b4 b5 b6 b7, l = [b0, b1, b2, b3, b4, b5, b6, b7] := by
  match l, hl with
  | [b0, b1, b2, b3, b4, b5, b6, b7], _ => exact ⟨b0, b1, b2, b3, b4, b5, b6, b7, rfl⟩
theorem chA_cells {w : World} {g : Nat} {k : Value} {s t : Int} {b0 b1 b2 b3 b4 b5 b6 b7 : Bool} {ty : TypeId} {fr : Nat × Nat} (h : w.heap[g]? = some (.cells (chA k s t [b0, b1, b2, b3, b4, b5, b6, b7]) ty fr)) :
    w.cell? ⟨g, 0, none⟩ = some k ∧ w.cell? ⟨g, 1, none⟩ = some (.int .i64 s) ∧ w.cell? ⟨g, 2, none⟩ = some (.int .i64 t) ∧ w.cell? ⟨g, 3, none⟩ = some (.bool b0) ∧ w.cell? ⟨g, 4, none⟩ = some (.bool b1) ∧ w.cell? ⟨g, 5, none⟩ = some (.bool b2) ∧ w.cell? ⟨g, 6, none⟩ = some (.bool b3) ∧ w.cell? ⟨g, 7, none⟩ = some (.bool b4) ∧ w.cell? ⟨g, 8, none⟩ = some (.bool b5) ∧ w.cell? ⟨g, 9, none⟩ = some (.bool b6) ∧ w.cell? ⟨g, 10, none⟩ = some (.bool b7) :=
  ⟨cell_of_row _ _ 0 _ _ _ h, cell_of_row _ _ 1 _ _ _ h, cell_of_row _ _ 2 _ _ _ h, cell_of_row _ _ 3 _ _ _ h, cell_of_row _ _ 4 _ _ _ h, cell_of_row _ _ 5 _ _ _ h, cell_of_row _ _ 6 _ _ _ h, cell_of_row _ _ 7 _ _ _ h, cell_of_row _ _ 8 _ _ _ h, cell_of_row _ _ 9 _ _ _ h, cell_of_row _ _ 10 _ _ _ h⟩
/-- the cells of a window -/
def wA (t : Int) (l : List Bool) : Array Value := (.int .i64 t :: l.map Value.bool).toArray
theorem wA_size (t : Int) (l : List Bool) : (wA t l).size = l.length + 1 := by simp [wA]
theorem wA_top (t : Int) (l : List Bool) : (wA t l)[0]? = some (.int .i64 t) := by simp [wA]
theorem wA_seen (t : Int) (l : List Bool) (i : Nat) (hi : i < l.length) : (wA t l)[1 + i]? = some (.bool (l.getD i false)) := by
  rw [Nat.add_comm]
  simp [wA, List.getD, List.getElem?_eq_getElem hi]
theorem wA_one (t : Int) (l : List Bool) : (wA t l).all (·.oneCell') = true := by simp [wA, Value.oneCell']
theorem wA_cells {w : World} {g : Nat} {t : Int} {b0 b1 b2 b3 b4 b5 b6 b7 : Bool} {ty : TypeId} {fr : Nat × Nat} (h : w.heap[g]? = some (.cells (wA t [b0, b1, b2, b3, b4, b5, b6, b7]) ty fr)) :
    w.cell? ⟨g, 0, none⟩ = some (.int .i64 t) ∧ w.cell? ⟨g, 1, none⟩ = some (.bool b0) ∧ w.cell? ⟨g, 2, none⟩ = some (.bool b1) ∧ w.cell? ⟨g, 3, none⟩ = some (.bool b2) ∧ w.cell? ⟨g, 4, none⟩ = some (.bool b3) ∧ w.cell? ⟨g, 5, none⟩ = some (.bool b4) ∧ w.cell? ⟨g, 6, none⟩ = some (.bool b5) ∧ w.cell? ⟨g, 7, none⟩ = some (.bool b6) ∧ w.cell? ⟨g, 8, none⟩ = some (.bool b7) :=
  ⟨cell_of_row _ _ 0 _ _ _ h, cell_of_row _ _ 1 _ _ _ h, cell_of_row _ _ 2 _ _ _ h, cell_of_row _ _ 3 _ _ _ h, cell_of_row _ _ 4 _ _ _ h, cell_of_row _ _ 5 _ _ _ h, cell_of_row _ _ 6 _ _ _ h, cell_of_row _ _ 7 _ _ _ h, cell_of_row _ _ 8 _ _ _ h⟩
/-- the numbers that were met, of the first k places -/
def metL (t : Int) (l : List Bool) : Nat → List Int
  | 0 => []
  | k + 1 => if l.getD k false then metL t l k ++ [t - 8 + (k : Int)] else metL t l k
theorem metL_length (t : Int) (l : List Bool) (k : Nat) : (metL t l k).length ≤ k := by
  induction k with
  | zero => simp [metL]
  | succ k ih =>
    rw [metL]
    split
    · rw [List.length_append, List.length_singleton]; omega
    · omega
/-- was the number x met? -/
def metB (t : Int) (l : List Bool) (x : Int) : Bool := decide (t - 8 ≤ x) && decide (x < t) && l.getD (x - (t - 8)).toNat false
theorem metB_at (t : Int) (l : List Bool) (k : Nat) (hk : k < 8) : metB t l (t - 8 + k) = l.getD k false := by
  unfold metB
  rw [decide_eq_true (by omega), decide_eq_true (by omega), show (t - 8 + (k : Int) - (t - 8)).toNat = k by omega]
  simp
theorem metB_lt {t : Int} {l : List Bool} {x : Int} (h : metB t l x = true) : t - 8 ≤ x ∧ x < t := by
  unfold metB at h
  simp at h
  omega
theorem metB_of {t : Int} {l : List Bool} {x : Int} (h1 : t - 8 ≤ x) (h2 : x < t) : metB t l x = l.getD (x - (t - 8)).toNat false := by
  unfold metB
  rw [decide_eq_true h1, decide_eq_true h2]
  simp
theorem metB_ge {t : Int} {l : List Bool} {x : Int} (h : t ≤ x) : metB t l x = false := by
  unfold metB
  rw [decide_eq_false (show ¬ x < t by omega)]
  simp
theorem metB_low {t : Int} {l : List Bool} {x : Int} (h : x < t - 8) : metB t l x = false := by
  unfold metB
  rw [decide_eq_false (show ¬ t - 8 ≤ x by omega)]
  simp

/-- a channel that may be -/
structure OkC (key : List Int) (s t : Int) (l : List Bool) : Prop where
  key : key.length = 32
  s0 : 0 ≤ s
  s1 : s ≤ 1073741824
  t0 : 0 ≤ t
  t1 : t ≤ 1073741824
  low : ∀ i : Nat, i < 8 → l.getD i false = true → 0 ≤ t - 8 + (i : Int)
  top : t = 0 ∨ l.getD 7 false = true
theorem okC_iff (key : List Int) (s t : Int) (l : List Bool) : OkC key s t l ↔ (key.length = 32 ∧ 0 ≤ s ∧ s ≤ 1073741824 ∧ 0 ≤ t ∧ t ≤ 1073741824 ∧ (∀ i, i < 8 → l.getD i false = true → 0 ≤ t - 8 + (i : Int)) ∧ (t = 0 ∨ l.getD 7 false = true)) :=
  ⟨fun h => ⟨h.1, h.2, h.3, h.4, h.5, h.6, h.7⟩, fun h => ⟨h.1, h.2.1, h.2.2.1, h.2.2.2.1, h.2.2.2.2.1, h.2.2.2.2.2.1, h.2.2.2.2.2.2⟩⟩
instance (key : List Int) (s t : Int) (l : List Bool) : Decidable (OkC key s t l) := decidable_of_iff _ (okC_iff key s t l).symm
/-- what a window may be -/
def mayB (t : Int) (l : List Bool) : Bool := ((List.range 8).all fun i => !l.getD i false || decide (0 ≤ t - 8 + (i : Int))) && (decide (t = 0) || l.getD 7 false)
theorem mayB_iff (t : Int) (l : List Bool) : mayB t l = true ↔ ((∀ i : Nat, i < 8 → l.getD i false = true → 0 ≤ t - 8 + (i : Int)) ∧ (t = 0 ∨ l.getD 7 false = true)) := by
  unfold mayB
  rw [Bool.and_eq_true, Bool.or_eq_true, List.all_eq_true]
  constructor
  · rintro ⟨h1, h2⟩
    refine ⟨fun i hi hb => ?_, h2.imp of_decide_eq_true id⟩
    have h := h1 i (List.mem_range.2 hi)
    rw [hb] at h
    simpa using h
  · rintro ⟨h1, h2⟩
    refine ⟨fun i hi => ?_, h2.imp decide_eq_true id⟩
    cases hb : l.getD i false with
    | true => simpa using h1 i (List.mem_range.1 hi) hb
    | false => rfl
/-- what Check says -/
def checkE (key : List Int) (s t : Int) (l : List Bool) : Int := if OkC key s t l then 0 else 5

/-- is a number old? -/
def oldB (t : Int) (l : List Bool) (n : Int) : Bool := decide (n < t) && (decide (n < t - 8) || metB t l n)
/-- behind taking the number n -/
def takT (t n : Int) : Int := if t ≤ n then n + 1 else t
def takS (t : Int) (l : List Bool) (n : Int) : List Bool := (List.range 8).map fun k : Nat => decide (takT t n - 8 + (k : Int) = n) || metB t l (takT t n - 8 + (k : Int))
theorem takS_length (t : Int) (l : List Bool) (n : Int) : (takS t l n).length = 8 := by simp [takS]
theorem takS_at (t : Int) (l : List Bool) (n : Int) (k : Nat) (hk : k < 8) : (takS t l n).getD k false = (decide (takT t n - 8 + (k : Int) = n) || metB t l (takT t n - 8 + (k : Int))) := by
  simp [takS, List.getD, hk]
theorem takT_le (t n : Int) : t ≤ takT t n ∧ n < takT t n := by unfold takT; split <;> omega
theorem metB_take (t : Int) (l : List Bool) (n x : Int) : metB (takT t n) (takS t l n) x = (decide (takT t n - 8 ≤ x) && (decide (x = n) || metB t l x)) := by
  have ht := takT_le t n
  by_cases h1 : takT t n - 8 ≤ x
  · by_cases h2 : x < takT t n
    · rw [metB_of h1 h2, takS_at _ _ _ _ (by omega), show takT t n - 8 + ((x - (takT t n - 8)).toNat : Int) = x by omega, decide_eq_true h1]
      simp
    · rw [metB_ge (by omega), metB_ge (show t ≤ x by omega), decide_eq_false (show ¬ x = n by omega)]
      simp
  · rw [metB_low (by omega), decide_eq_false h1]
    simp

/-- what may be may be behind taking too -/
theorem OkC.take {key : List Int} {s t : Int} {l : List Bool} (h : OkC key s t l) (n : Int) (h0 : 0 ≤ n) (h1 : n < 1073741824) : OkC key s (takT t n) (takS t l n) := by
  have ht := takT_le t n
  have hT : takT t n ≤ 1073741824 := by have := h.t1; unfold takT; split <;> omega
  refine ⟨h.1, h.2, h.3, by have := h.t0; omega, hT, ?_, .inr ?_⟩
  · intro i hi hm
    rw [takS_at _ _ _ _ hi] at hm
    rw [Bool.or_eq_true] at hm
    rcases hm with hm | hm
    · have := of_decide_eq_true hm
      omega
    · have hb := metB_lt hm
      rw [metB_of hb.1 hb.2] at hm
      have := h.low _ (by omega) hm
      omega
  · rw [takS_at _ _ _ _ (by omega)]
    by_cases hc : t ≤ n
    · have : takT t n = n + 1 := by unfold takT; rw [if_pos hc]
      rw [decide_eq_true (by omega)]
      simp
    · have hT2 : takT t n = t := by unfold takT; rw [if_neg hc]
      rw [hT2, metB_at t l 7 (by omega)]
      rcases h.top with h7 | h7
      · have := h.t0; omega
      · rw [h7]; simp
theorem OkC.sent {key : List Int} {s t : Int} {l : List Bool} (h : OkC key s t l) (s' : Int) (h0 : 0 ≤ s') (h1 : s' ≤ 1073741824) : OkC key s' t l := ⟨h.1, h0, h1, h.4, h.5, h.6, h.7⟩
def noB : List Bool := List.replicate 8 false
theorem noB_length : noB.length = 8 := rfl
theorem noB_at (k : Nat) : noB.getD k false = false := by
  rw [noB, List.getD_eq_getElem?_getD, List.getElem?_replicate]
  split <;> rfl
theorem metB_no (t x : Int) : metB t noB x = false := by unfold metB; rw [noB_at]; simp
theorem OkC.new {key : List Int} (hk : key.length = 32) (s : Int) (h0 : 0 ≤ s) (h1 : s ≤ 1073741824) : OkC key s 0 noB :=
  ⟨hk, h0, h1, by omega, by omega, (fun i _ h => by rw [noB_at] at h; exact absurd h (by simp)), .inl rfl⟩
theorem oldB_ge {t : Int} {l : List Bool} {n : Int} (h : t ≤ n) : oldB t l n = false := by unfold oldB; rw [decide_eq_false (by omega)]; simp
theorem oldB_of {t : Int} {l : List Bool} {n : Int} (h : t - 8 ≤ n) : oldB t l n = metB t l n := by
  by_cases h2 : n < t
  · unfold oldB; rw [decide_eq_true h2, decide_eq_false (show ¬ n < t - 8 by omega)]; simp
  · rw [oldB_ge (by omega), metB_ge (by omega)]
theorem oldB_low {t : Int} {l : List Bool} {n : Int} (h : n < t - 8) : oldB t l n = true := by unfold oldB; rw [decide_eq_true (show n < t by omega), decide_eq_true h]; simp

/-- the head of a number, the nonce of a head, the number of a head -/
def headL (n : Int) : List Int := [n / 16777216 % 256, n / 65536 % 256, n / 256 % 256, n % 256]
def nonceL (h : List Int) : List Int := List.replicate 8 0 ++ h
def numL (h : List Int) : Int := 16777216 * h.getD 0 0 + 65536 * h.getD 1 0 + 256 * h.getD 2 0 + h.getD 3 0
theorem headL_length (n : Int) : (headL n).length = 4 := rfl
theorem headL_byte (n : Int) : ∀ x ∈ headL n, 0 ≤ x ∧ x < 256 := by
  intro x hx
  simp only [headL, List.mem_cons, List.not_mem_nil, or_false] at hx
  rcases hx with rfl | rfl | rfl | rfl <;> omega
theorem nonceL_length {h : List Int} (hh : h.length = 4) : (nonceL h).length = 12 := by simp [nonceL, hh]
theorem nonceL_byte {h : List Int} (hb : ∀ x ∈ h, 0 ≤ x ∧ x < 256) : ∀ x ∈ nonceL h, 0 ≤ x ∧ x < 256 := by
  intro x hx
  rcases List.mem_append.1 hx with h1 | h1
  · rw [(List.mem_replicate.1 h1).2]; omega
  · exact hb x h1
theorem numL_head (n : Int) (h0 : 0 ≤ n) (h1 : n < 4294967296) : numL (headL n) = n := by
  show 16777216 * (n / 16777216 % 256) + 65536 * (n / 65536 % 256) + 256 * (n / 256 % 256) + n % 256 = n
  omega
theorem four (h : List Int) (hh : h.length = 4) : ∃ a b c d, h = [a, b, c, d] := by
  match h, hh with
  | [a, b, c, d], _ => exact ⟨a, b, c, d, rfl⟩
theorem headL_num {h : List Int} (hh : h.length = 4) (hb : ∀ x ∈ h, 0 ≤ x ∧ x < 256) : headL (numL h) = h := by
  obtain ⟨a, b, c, d, rfl⟩ := four h hh
  have h1 := hb a (by simp)
  have h2 := hb b (by simp)
  have h3 := hb c (by simp)
  have h4 := hb d (by simp)
  show [(16777216 * a + 65536 * b + 256 * c + d) / 16777216 % 256, (16777216 * a + 65536 * b + 256 * c + d) / 65536 % 256, (16777216 * a + 65536 * b + 256 * c + d) / 256 % 256, (16777216 * a + 65536 * b + 256 * c + d) % 256] = [a, b, c, d]
  congr 1
  · omega
  congr 1
  · omega
  congr 1
  · omega
  congr 1
  omega
theorem numL_range {h : List Int} (hh : h.length = 4) (hb : ∀ x ∈ h, 0 ≤ x ∧ x < 256) : 0 ≤ numL h ∧ numL h < 4294967296 := by
  obtain ⟨a, b, c, d, rfl⟩ := four h hh
  have h1 := hb a (by simp)
  have h2 := hb b (by simp)
  have h3 := hb c (by simp)
  have h4 := hb d (by simp)
  show 0 ≤ 16777216 * a + 65536 * b + 256 * c + d ∧ 16777216 * a + 65536 * b + 256 * c + d < 4294967296
  omega

end Go.Proofs.YtmpefofifbehjaaDoor
/-
  Commands and tokens, in plain numbers: their cells, what may be, their bytes, and what a token allows. No program is named here.
-/
namespace Go.Proofs.YtmpefofifbehjaaDoor
open Go.RowKit
set_option linter.unusedVariables false

/-- the cells of a command: kind, client, number, name, value -/
def cmA (k c s n v : Int) : Array Value := #[.int .i64 k, .int .i64 c, .int .i64 s, .int .i64 n, .int .i64 v]
/-- the cells of a token: client, rights, until -/
def tkA (c r u : Int) : Array Value := #[.int .i64 c, .int .i64 r, .int .i64 u]

/-- the numbers of a command that is no noop, within their bounds -/
def InC (c s n v : Int) : Prop := 0 ≤ c ∧ c ≤ 7 ∧ 0 ≤ s ∧ s ≤ 1048576 ∧ 0 ≤ n ∧ n ≤ 7 ∧ 0 ≤ v ∧ v ≤ 1073741824
instance (c s n v : Int) : Decidable (InC c s n v) := by unfold InC; exact inferInstance
/-- what is wrong with a command -/
def comE (k c s n v : Int) : Int :=
  if ¬ (0 ≤ k ∧ k ≤ 3) then 4
  else if k = 0 then (if c = 0 ∧ s = 0 ∧ n = 0 ∧ v = 0 then 0 else 3)
  else if ¬ InC c s n v then 2
  else if 1 < k ∧ v ≠ 0 then 3
  else 0
theorem comE_kind {k c s n v : Int} (h : ¬ (0 ≤ k ∧ k ≤ 3)) : comE k c s n v = 4 := if_pos h
theorem comE_noop {c s n v : Int} (h : c = 0 ∧ s = 0 ∧ n = 0 ∧ v = 0) : comE 0 c s n v = 0 := by
  unfold comE; rw [if_neg (by omega), if_pos rfl, if_pos h]
theorem comE_noopF {c s n v : Int} (h : ¬ (c = 0 ∧ s = 0 ∧ n = 0 ∧ v = 0)) : comE 0 c s n v = 3 := by
  unfold comE; rw [if_neg (by omega), if_pos rfl, if_neg h]
theorem comE_range {k c s n v : Int} (h : 1 ≤ k ∧ k ≤ 3) (hi : ¬ InC c s n v) : comE k c s n v = 2 := by
  unfold comE; rw [if_neg (by omega), if_neg (by omega), if_pos hi]
theorem comE_form {k c s n v : Int} (h : 2 ≤ k ∧ k ≤ 3) (hi : InC c s n v) (hv : v ≠ 0) : comE k c s n v = 3 := by
  unfold comE; rw [if_neg (by omega), if_neg (by omega), if_neg (fun g => g hi), if_pos ⟨by omega, hv⟩]
theorem comE_ok {k c s n v : Int} (h : 1 ≤ k ∧ k ≤ 3) (hi : InC c s n v) (hv : k = 1 ∨ v = 0) : comE k c s n v = 0 := by
  unfold comE; rw [if_neg (by omega), if_neg (by omega), if_neg (fun g => g hi), if_neg (by omega)]
/-- of a command that may be, all numbers are small -/
theorem comE_zero {k c s n v : Int} (h : comE k c s n v = 0) : (0 ≤ k ∧ k ≤ 3) ∧ InC c s n v := by
  unfold comE at h
  split at h
  · omega
  · rename_i h1
    split at h
    · split at h
      · rename_i h3
        exact ⟨by omega, by unfold InC; omega⟩
      · omega
    · split at h
      · omega
      · rename_i h3
        exact ⟨by omega, Classical.not_not.1 h3⟩
theorem comE_range4 (k c s n v : Int) : 0 ≤ comE k c s n v ∧ comE k c s n v ≤ 4 := by
  unfold comE
  repeat' split
  all_goals omega

/-- a command's bytes -/
def comL (k c s n v : Int) : List Int := headL k ++ headL c ++ headL s ++ headL n ++ headL v
theorem comL_length (k c s n v : Int) : (comL k c s n v).length = 20 := rfl
theorem comL_byte (k c s n v : Int) : ∀ x ∈ comL k c s n v, 0 ≤ x ∧ x < 256 := by
  intro x hx
  rcases List.mem_append.1 hx with hx | hx
  · rcases List.mem_append.1 hx with hx | hx
    · rcases List.mem_append.1 hx with hx | hx
      · rcases List.mem_append.1 hx with hx | hx
        · exact headL_byte _ x hx
        · exact headL_byte _ x hx
      · exact headL_byte _ x hx
    · exact headL_byte _ x hx
  · exact headL_byte _ x hx
/-- the number at a place of bytes -/
def numA (l : List Int) (i : Nat) : Int := 16777216 * l.getD i 0 + 65536 * l.getD (i + 1) 0 + 256 * l.getD (i + 2) 0 + l.getD (i + 3) 0
theorem numA_range {l : List Int} (hb : ∀ x ∈ l, 0 ≤ x ∧ x < 256) (i : Nat) : 0 ≤ numA l i ∧ numA l i < 4294967296 := by
  have h0 := getD_byte hb i
  have h1 := getD_byte hb (i + 1)
  have h2 := getD_byte hb (i + 2)
  have h3 := getD_byte hb (i + 3)
  unfold numA
  omega
/-- the bytes of a number that is read -/
theorem headL_numA {l : List Int} (hb : ∀ x ∈ l, 0 ≤ x ∧ x < 256) (i : Nat) : headL (numA l i) = [l.getD i 0, l.getD (i + 1) 0, l.getD (i + 2) 0, l.getD (i + 3) 0] := by
  have h0 := getD_byte hb i
  have h1 := getD_byte hb (i + 1)
  have h2 := getD_byte hb (i + 2)
  have h3 := getD_byte hb (i + 3)
  unfold headL numA
  congr 1
  · omega
  congr 1
  · omega
  congr 1
  · omega
  congr 1
  omega
theorem numA_headL (n : Int) (h0 : 0 ≤ n) (h1 : n < 4294967296) (l m : List Int) : numA (l ++ (headL n ++ m)) l.length = n := by
  have e : ∀ j, (l ++ (headL n ++ m)).getD (l.length + j) 0 = (headL n ++ m).getD j 0 := by
    intro j
    simp [List.getD, List.getElem?_append_right]
  unfold numA
  rw [show l.length = l.length + 0 from rfl, Nat.add_assoc, Nat.add_assoc, Nat.add_assoc, e, e, e, e]
  show 16777216 * (n / 16777216 % 256) + 65536 * (n / 65536 % 256) + 256 * (n / 256 % 256) + n % 256 = n
  omega
theorem numA_com0 (k c s n v : Int) (h0 : 0 ≤ k) (h1 : k < 4294967296) : numA (comL k c s n v) 0 = k := by
  have h := numA_headL k h0 h1 [] (headL c ++ headL s ++ headL n ++ headL v)
  exact h
theorem numA_com4 (k c s n v : Int) (h0 : 0 ≤ c) (h1 : c < 4294967296) : numA (comL k c s n v) 4 = c := by
  have h := numA_headL c h0 h1 (headL k) (headL s ++ headL n ++ headL v)
  exact h
theorem numA_com8 (k c s n v : Int) (h0 : 0 ≤ s) (h1 : s < 4294967296) : numA (comL k c s n v) 8 = s := by
  have h := numA_headL s h0 h1 (headL k ++ headL c) (headL n ++ headL v)
  exact h
theorem numA_com12 (k c s n v : Int) (h0 : 0 ≤ n) (h1 : n < 4294967296) : numA (comL k c s n v) 12 = n := by
  have h := numA_headL n h0 h1 (headL k ++ headL c ++ headL s) (headL v)
  exact h
theorem numA_com16 (k c s n v : Int) (h0 : 0 ≤ v) (h1 : v < 4294967296) : numA (comL k c s n v) 16 = v := by
  have h := numA_headL v h0 h1 (headL k ++ headL c ++ headL s ++ headL n) []
  exact h
/-- what twenty bytes tell is what they are -/
theorem comL_num {l : List Int} (hl : l.length = 20) (hb : ∀ x ∈ l, 0 ≤ x ∧ x < 256) : comL (numA l 0) (numA l 4) (numA l 8) (numA l 12) (numA l 16) = l := by
  unfold comL
  rw [headL_numA hb, headL_numA hb, headL_numA hb, headL_numA hb, headL_numA hb]
  match l, hl with
  | [_, _, _, _, _, _, _, _, _, _, _, _, _, _, _, _, _, _, _, _], _ => rfl
/-- what is wrong with bytes, and the command that they tell -/
def decE (l : List Int) : Int := if l.length ≠ 20 then 1 else comE (numA l 0) (numA l 4) (numA l 8) (numA l 12) (numA l 16)
def decV (l : List Int) : Array Value := if decE l = 0 then cmA (numA l 0) (numA l 4) (numA l 8) (numA l 12) (numA l 16) else cmA 0 0 0 0 0

/-- a token that may be -/
def TokB (c r u : Int) : Prop := (0 ≤ c ∧ c ≤ 7) ∧ (0 ≤ r ∧ r ≤ 7) ∧ 0 ≤ u ∧ u ≤ 1048576
instance (c r u : Int) : Decidable (TokB c r u) := by unfold TokB; exact inferInstance
/-- what is wrong with a token -/
def tokE (c r u : Int) : Int := if TokB c r u then 0 else 2
theorem tokE_ok {c r u : Int} (h : TokB c r u) : tokE c r u = 0 := if_pos h
theorem tokE_no {c r u : Int} (h : ¬ TokB c r u) : tokE c r u = 2 := if_neg h
/-- does a set of rights have what a kind needs? -/
def HasR (k r : Int) : Prop := (k = 1 ∧ r / 2 % 2 = 1) ∨ (k = 2 ∧ r % 2 = 1) ∨ (k = 3 ∧ r / 4 = 1)
instance (k r : Int) : Decidable (HasR k r) := by unfold HasR; exact inferInstance
/-- what a token says of a command at a time -/
def allE (tc tr tu k c s n v now : Int) : Int :=
  if ¬ TokB tc tr tu then 2
  else if comE k c s n v ≠ 0 then comE k c s n v
  else if ¬ (HasR k tr ∧ c = tc) then 11
  else if ¬ (0 ≤ now ∧ now ≤ tu) then 10
  else 0
theorem allE_tok {tc tr tu k c s n v now : Int} (h : ¬ TokB tc tr tu) : allE tc tr tu k c s n v now = 2 := if_pos h
theorem allE_com {tc tr tu k c s n v now : Int} (h : TokB tc tr tu) (h1 : comE k c s n v ≠ 0) : allE tc tr tu k c s n v now = comE k c s n v := by
  unfold allE; rw [if_neg (fun g => g h), if_pos h1]
theorem allE_right {tc tr tu k c s n v now : Int} (h : TokB tc tr tu) (h1 : comE k c s n v = 0) (h2 : ¬ (HasR k tr ∧ c = tc)) : allE tc tr tu k c s n v now = 11 := by
  unfold allE; rw [if_neg (fun g => g h), if_neg (fun g => g h1), if_pos h2]
theorem allE_time {tc tr tu k c s n v now : Int} (h : TokB tc tr tu) (h1 : comE k c s n v = 0) (h2 : HasR k tr ∧ c = tc) (h3 : ¬ (0 ≤ now ∧ now ≤ tu)) : allE tc tr tu k c s n v now = 10 := by
  unfold allE; rw [if_neg (fun g => g h), if_neg (fun g => g h1), if_neg (fun g => g h2), if_pos h3]
theorem allE_ok {tc tr tu k c s n v now : Int} (h : TokB tc tr tu) (h1 : comE k c s n v = 0) (h2 : HasR k tr ∧ c = tc) (h3 : 0 ≤ now ∧ now ≤ tu) : allE tc tr tu k c s n v now = 0 := by
  unfold allE; rw [if_neg (fun g => g h), if_neg (fun g => g h1), if_neg (fun g => g h2), if_neg (fun g => g h3)]

/-- the six bytes of a token that its Mac is made of -/
def tokH (c r u : Int) : List Int := c :: r :: headL u
theorem tokH_length (c r u : Int) : (tokH c r u).length = 6 := rfl
theorem tokH_byte {c r u : Int} (h : TokB c r u) : ∀ x ∈ tokH c r u, 0 ≤ x ∧ x < 256 := by
  obtain ⟨h1, h2, h3⟩ := h
  intro x hx
  rcases List.mem_cons.1 hx with rfl | hx
  · omega
  rcases List.mem_cons.1 hx with rfl | hx
  · omega
  exact headL_byte _ x hx
theorem numA_tokH (c r u : Int) (m : List Int) (h0 : 0 ≤ u) (h1 : u < 4294967296) : numA (tokH c r u ++ m) 2 = u := by
  have h := numA_headL u h0 h1 [c, r] m
  exact h
/-- six bytes are those of what they tell -/
theorem tokH_num {l : List Int} (hl : 6 ≤ l.length) (hb : ∀ x ∈ l, 0 ≤ x ∧ x < 256) : tokH (l.getD 0 0) (l.getD 1 0) (numA l 2) = l.take 6 := by
  unfold tokH
  rw [headL_numA hb]
  match l, hl with
  | _ :: _ :: _ :: _ :: _ :: _ :: _, _ => rfl
end Go.Proofs.YtmpefofifbehjaaDoor
/-
  The row of the table for bytes.
-/
namespace Go.Proofs.YtmpefofifbehjaaDoor
theorem info5 : (Tryd.prog.info? 5).map (fun i => (i.zero, i.size, i.bytes)) = some (some (.int .u8 0), 1, 1) := by kernel_rfl
end Go.Proofs.YtmpefofifbehjaaDoor
/-
  A region that draws its order, whose operations read but for a tail of one store: one walk, in the order of the text. No program is named here.
-/
namespace Go.Proofs.YtmpefofifbehjaaDoor
open Go.RowKit

theorem still_of_quiet {P : Program} {ops : Array Oper} {w : World} {Q : Act → Prop} : ∀ (l : List Oper) (a : Act), wpQuiet P ops (fun w' => w' = w) Q l a → wpStill P ops w Q l a
  | [], _, h => h
  | o :: rest, a, h => by
    unfold wpQuiet at h
    unfold wpStill
    split
    · rename_i hw
      rw [if_pos hw] at h
      obtain ⟨v, h1, h2⟩ := h
      have h3 := h1 w rfl
      unfold Oper.quietAt at h3
      unfold Oper.still
      generalize (execOp a.eval o).run P w = r at h3 ⊢
      cases r with
      | ok n w' =>
        cases n <;> simp only [Oper.quietUpon] at h3 <;> simp only [Oper.stillUpon]
        case value u =>
          obtain ⟨e1, e2⟩ := h3
          rw [e2]
          exact ⟨e1, still_of_quiet rest _ h2⟩
        case skip =>
          obtain ⟨e1, e2⟩ := h3
          rw [← e2]
          exact ⟨e1, still_of_quiet rest _ h2⟩
        case enter f args => exact ⟨h3.1, v, h3.2, still_of_quiet rest _ h2⟩
      | halt x w' => simp only [Oper.quietUpon] at h3
    · rename_i hw
      rw [if_neg hw] at h
      exact still_of_quiet rest _ h

theorem wp_region_quiet_tail {P : Program} {id : Nat} {Q : Exit → Act → World → Prop} {a : Act} {w : World} {l : List Oper} (n : Nat) (hm : P.follows .mixedOrders = true) (hB : Region.lexTailB .any l.toArray n = true)
    (h : wpQuiet P l.toArray (fun w' => w' = w.drew) (fun a' => wpList P l.toArray Q (l.drop n) a' w.drew) (l.take n) a) : (Code.region id l.toArray true).wp P Q a w :=
  wp_region_still_tail n hm hB (still_of_quiet _ _ h)

end Go.Proofs.YtmpefofifbehjaaDoor
/-
  Commands that are compared.
-/
namespace Go.Proofs.YtmpefofifbehjaaDoor
open Go.RowKit
set_option linter.unusedVariables false

set_option maxRecDepth 100000 in
theorem eql_com (a b c d e a' b' c' d' e' : Int) : ∀ w, (binOp .eql 31 (.agg #[.int .i64 a, .int .i64 b, .int .i64 c, .int .i64 d, .int .i64 e]) (.agg #[.int .i64 a', .int .i64 b', .int .i64 c', .int .i64 d', .int .i64 e'])).run Tryd.prog w = .ok (.bool (decide (a = a' ∧ b = b' ∧ c = c' ∧ d = d' ∧ e = e'))) w := by
  intro w
  rw [run_eql_struct, run_equalIn_agg w 9999 _ _ _ (by kernel_rfl) (by kernel_rfl)]
  unfold Program.fieldsOf
  rw [Tryd.underlying31]
  have h3 := Tryd.underlying3
  simp [Op.eqFields, go_sem, h3]
  repeat' split
  all_goals simp_all
set_option maxRecDepth 100000 in
theorem neq_com (a b c d e a' b' c' d' e' : Int) : ∀ w, (binOp .neq 31 (.agg #[.int .i64 a, .int .i64 b, .int .i64 c, .int .i64 d, .int .i64 e]) (.agg #[.int .i64 a', .int .i64 b', .int .i64 c', .int .i64 d', .int .i64 e'])).run Tryd.prog w = .ok (.bool (!decide (a = a' ∧ b = b' ∧ c = c' ∧ d = d' ∧ e = e'))) w := by
  intro w
  rw [run_neq_struct, run_equalIn_agg w 9999 _ _ _ (by kernel_rfl) (by kernel_rfl)]
  unfold Program.fieldsOf
  rw [Tryd.underlying31]
  have h3 := Tryd.underlying3
  simp [Op.eqFields, go_sem, h3]
  repeat' split
  all_goals simp_all
end Go.Proofs.YtmpefofifbehjaaDoor
