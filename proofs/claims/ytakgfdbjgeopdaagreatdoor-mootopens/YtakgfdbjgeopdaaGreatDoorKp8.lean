/-
  Channels, in plain lists: their cells, which numbers were met, what may be, what taking a number makes; and the heads of numbers. No program is named here.
-/
import Derived.Deep.MidRow
import Derived.Laws.Tables
import Derived.Laws.Rows
import Derived.Test.YtakgfdbjgeopdaaGreatDoorKp1
import Derived.Test.YtakgfdbjgeopdaaGreatDoorKp2
namespace Go.Proofs.YtakgfdbjgeopdaaGreatDoor
open Go.RowKit
set_option linter.unusedVariables false

theorem ret_num {a b : Int} (h : a = b) : Ending.returned (.int .i64 a) = .returned (.int .i64 b) := by rw [h]
/-- the cells of a channel: its key, how much was sent, its top, and which numbers below the top were met -/
def chA (k : Value) (s t : Int) (l : List Bool) : Array Value := (k :: .int .i64 s :: .int .i64 t :: l.map Value.bool).toArray
theorem chA_size (k : Value) (s t : Int) (l : List Bool) : (chA k s t l).size = l.length + 3 := by simp [chA]
theorem chA_key (k : Value) (s t : Int) (l : List Bool) : (chA k s t l)[0]? = some k := by simp [chA]
theorem chA_sent (k : Value) (s t : Int) (l : List Bool) : (chA k s t l)[1]? = some (.int .i64 s) := by simp [chA]
theorem chA_top (k : Value) (s t : Int) (l : List Bool) : (chA k s t l)[2]? = some (.int .i64 t) := by simp [chA]
theorem chA_seen (k : Value) (s t : Int) (l : List Bool) (i : Nat) (hi : i < l.length) : (chA k s t l)[3 + i]? = some (.bool (l.getD i false)) := by
  rw [Nat.add_comm]
  simp [chA, List.getD, List.getElem?_eq_getElem hi]
theorem eight (l : List Bool) (hl : l.length = 8) : ∃ b0 b1 b2 b3 b4 b5 b6 b7, l = [b0, b1, b2, b3, b4, b5, b6, b7] := by
  match l, hl with
  | [b0, b1, b2, b3, b4, b5, b6, b7], _ => exact ⟨b0, b1, b2, b3, b4, b5, b6, b7, rfl⟩
theorem chA_cells {w : World} {g : Nat} {k : Value} {s t : Int} {b0 b1 b2 b3 b4 b5 b6 b7 : Bool} {ty : TypeId} {fr : Nat × Nat} (h : w.heap[g]? = some (.cells (chA k s t [b0, b1, b2, b3, b4, b5, b6, b7]) ty fr)) :
    w.cell? ⟨g, 0, none⟩ = some k ∧ w.cell? ⟨g, 1, none⟩ = some (.int .i64 s) ∧ w.cell? ⟨g, 2, none⟩ = some (.int .i64 t) ∧ w.cell? ⟨g, 3, none⟩ = some (.bool b0) ∧ w.cell? ⟨g, 4, none⟩ = some (.bool b1) ∧ w.cell? ⟨g, 5, none⟩ = some (.bool b2) ∧ w.cell? ⟨g, 6, none⟩ = some (.bool b3) ∧ w.cell? ⟨g, 7, none⟩ = some (.bool b4) ∧ w.cell? ⟨g, 8, none⟩ = some (.bool b5) ∧ w.cell? ⟨g, 9, none⟩ = some (.bool b6) ∧ w.cell? ⟨g, 10, none⟩ = some (.bool b7) :=
  ⟨cell_of_row _ _ 0 _ _ _ h, cell_of_row _ _ 1 _ _ _ h, cell_of_row _ _ 2 _ _ _ h, cell_of_row _ _ 3 _ _ _ h, cell_of_row _ _ 4 _ _ _ h, cell_of_row _ _ 5 _ _ _ h, cell_of_row _ _ 6 _ _ _ h, cell_of_row _ _ 7 _ _ _ h, cell_of_row _ _ 8 _ _ _ h, cell_of_row _ _ 9 _ _ _ h, cell_of_row _ _ 10 _ _ _ h⟩
/-- the cells of a window -/
def wA (t : Int) (l : List Bool) : Array Value := (.int .i64 t :: l.map Value.bool).toArray
theorem wA_size (t : Int) (l : List Bool) : (wA t l).size = l.length + 1 := by simp [wA]
theorem wA_top (t : Int) (l : List Bool) : (wA t l)[0]? = some (.int .i64 t) := by simp [wA]
theorem wA_seen (t : Int) (l : List Bool) (i : Nat) (hi : i < l.length) : (wA t l)[1 + i]? = some (.bool (l.getD i false)) := by
  rw [Nat.add_comm]
  simp [wA, List.getD, List.getElem?_eq_getElem hi]
theorem wA_one (t : Int) (l : List Bool) : (wA t l).all (·.oneCell') = true := by simp [wA, Value.oneCell']
theorem wA_cells {w : World} {g : Nat} {t : Int} {b0 b1 b2 b3 b4 b5 b6 b7 : Bool} {ty : TypeId} {fr : Nat × Nat} (h : w.heap[g]? = some (.cells (wA t [b0, b1, b2, b3, b4, b5, b6, b7]) ty fr)) :
    w.cell? ⟨g, 0, none⟩ = some (.int .i64 t) ∧ w.cell? ⟨g, 1, none⟩ = some (.bool b0) ∧ w.cell? ⟨g, 2, none⟩ = some (.bool b1) ∧ w.cell? ⟨g, 3, none⟩ = some (.bool b2) ∧ w.cell? ⟨g, 4, none⟩ = some (.bool b3) ∧ w.cell? ⟨g, 5, none⟩ = some (.bool b4) ∧ w.cell? ⟨g, 6, none⟩ = some (.bool b5) ∧ w.cell? ⟨g, 7, none⟩ = some (.bool b6) ∧ w.cell? ⟨g, 8, none⟩ = some (.bool b7) :=
  ⟨cell_of_row _ _ 0 _ _ _ h, cell_of_row _ _ 1 _ _ _ h, cell_of_row _ _ 2 _ _ _ h, cell_of_row _ _ 3 _ _ _ h, cell_of_row _ _ 4 _ _ _ h, cell_of_row _ _ 5 _ _ _ h, cell_of_row _ _ 6 _ _ _ h, cell_of_row _ _ 7 _ _ _ h, cell_of_row _ _ 8 _ _ _ h⟩
/-- the numbers that were met, of the first k places -/
def metL (t : Int) (l : List Bool) : Nat → List Int
  | 0 => []
  | k + 1 => if l.getD k false then metL t l k ++ [t - 8 + (k : Int)] else metL t l k
theorem metL_length (t : Int) (l : List Bool) (k : Nat) : (metL t l k).length ≤ k := by
  induction k with
  | zero => simp [metL]
  | succ k ih =>
    rw [metL]
    split
    · rw [List.length_append, List.length_singleton]; omega
    · omega
/-- was the number x met? -/
def metB (t : Int) (l : List Bool) (x : Int) : Bool := decide (t - 8 ≤ x) && decide (x < t) && l.getD (x - (t - 8)).toNat false
theorem metB_at (t : Int) (l : List Bool) (k : Nat) (hk : k < 8) : metB t l (t - 8 + k) = l.getD k false := by
  unfold metB
  rw [decide_eq_true (by omega), decide_eq_true (by omega), show (t - 8 + (k : Int) - (t - 8)).toNat = k by omega]
  simp
theorem metB_lt {t : Int} {l : List Bool} {x : Int} (h : metB t l x = true) : t - 8 ≤ x ∧ x < t := by
  unfold metB at h
  simp at h
  omega
theorem metB_of {t : Int} {l : List Bool} {x : Int} (h1 : t - 8 ≤ x) (h2 : x < t) : metB t l x = l.getD (x - (t - 8)).toNat false := by
  unfold metB
  rw [decide_eq_true h1, decide_eq_true h2]
  simp
theorem metB_ge {t : Int} {l : List Bool} {x : Int} (h : t ≤ x) : metB t l x = false := by
  unfold metB
  rw [decide_eq_false (show ¬ x < t by omega)]
  simp
theorem metB_low {t : Int} {l : List Bool} {x : Int} (h : x < t - 8) : metB t l x = false := by
  unfold metB
  rw [decide_eq_false (show ¬ t - 8 ≤ x by omega)]
  simp

/-- a channel that may be -/
structure OkC (key : List Int) (s t : Int) (l : List Bool) : Prop where
  key : key.length = 32
  s0 : 0 ≤ s
  s1 : s ≤ 1073741824
  t0 : 0 ≤ t
  t1 : t ≤ 1073741824
  low : ∀ i : Nat, i < 8 → l.getD i false = true → 0 ≤ t - 8 + (i : Int)
  top : t = 0 ∨ l.getD 7 false = true
theorem okC_iff (key : List Int) (s t : Int) (l : List Bool) : OkC key s t l ↔ (key.length = 32 ∧ 0 ≤ s ∧ s ≤ 1073741824 ∧ 0 ≤ t ∧ t ≤ 1073741824 ∧ (∀ i, i < 8 → l.getD i false = true → 0 ≤ t - 8 + (i : Int)) ∧ (t = 0 ∨ l.getD 7 false = true)) :=
  ⟨fun h => ⟨h.1, h.2, h.3, h.4, h.5, h.6, h.7⟩, fun h => ⟨h.1, h.2.1, h.2.2.1, h.2.2.2.1, h.2.2.2.2.1, h.2.2.2.2.2.1, h.2.2.2.2.2.2⟩⟩
instance (key : List Int) (s t : Int) (l : List Bool) : Decidable (OkC key s t l) := decidable_of_iff _ (okC_iff key s t l).symm
/-- what a window may be -/
def mayB (t : Int) (l : List Bool) : Bool := ((List.range 8).all fun i => !l.getD i false || decide (0 ≤ t - 8 + (i : Int))) && (decide (t = 0) || l.getD 7 false)
theorem mayB_iff (t : Int) (l : List Bool) : mayB t l = true ↔ ((∀ i : Nat, i < 8 → l.getD i false = true → 0 ≤ t - 8 + (i : Int)) ∧ (t = 0 ∨ l.getD 7 false = true)) := by
  unfold mayB
  rw [Bool.and_eq_true, Bool.or_eq_true, List.all_eq_true]
  constructor
  · rintro ⟨h1, h2⟩
    refine ⟨fun i hi hb => ?_, h2.imp of_decide_eq_true id⟩
    have h := h1 i (List.mem_range.2 hi)
    rw [hb] at h
    simpa using h
  · rintro ⟨h1, h2⟩
    refine ⟨fun i hi => ?_, h2.imp decide_eq_true id⟩
    cases hb : l.getD i false with
    | true => simpa using h1 i (List.mem_range.1 hi) hb
    | false => rfl
/-- what Check says -/
def checkE (key : List Int) (s t : Int) (l : List Bool) : Int := if OkC key s t l then 0 else 5

/-- is a number old? -/
def oldB (t : Int) (l : List Bool) (n : Int) : Bool := decide (n < t) && (decide (n < t - 8) || metB t l n)
/-- behind taking the number n -/
def takT (t n : Int) : Int := if t ≤ n then n + 1 else t
def takS (t : Int) (l : List Bool) (n : Int) : List Bool := (List.range 8).map fun k : Nat => decide (takT t n - 8 + (k : Int) = n) || metB t l (takT t n - 8 + (k : Int))
theorem takS_length (t : Int) (l : List Bool) (n : Int) : (takS t l n).length = 8 := by simp [takS]
theorem takS_at (t : Int) (l : List Bool) (n : Int) (k : Nat) (hk : k < 8) : (takS t l n).getD k false = (decide (takT t n - 8 + (k : Int) = n) || metB t l (takT t n - 8 + (k : Int))) := by
  simp [takS, List.getD, hk]
theorem takT_le (t n : Int) : t ≤ takT t n ∧ n < takT t n := by unfold takT; split <;> omega
theorem metB_take (t : Int) (l : List Bool) (n x : Int) : metB (takT t n) (takS t l n) x = (decide (takT t n - 8 ≤ x) && (decide (x = n) || metB t l x)) := by
  have ht := takT_le t n
  by_cases h1 : takT t n - 8 ≤ x
  · by_cases h2 : x < takT t n
    · rw [metB_of h1 h2, takS_at _ _ _ _ (by omega), show takT t n - 8 + ((x - (takT t n - 8)).toNat : Int) = x by omega, decide_eq_true h1]
      simp
    · rw [metB_ge (by omega), metB_ge (show t ≤ x by omega), decide_eq_false (show ¬ x = n by omega)]
      simp
  · rw [metB_low (by omega), decide_eq_false h1]
    simp

/-- what may be may be behind taking too -/
theorem OkC.take {key : List Int} {s t : Int} {l : List Bool} (h : OkC key s t l) (n : Int) (h0 : 0 ≤ n) (h1 : n < 1073741824) : OkC key s (takT t n) (takS t l n) := by
  have ht := takT_le t n
  have hT : takT t n ≤ 1073741824 := by have := h.t1; unfold takT; split <;> omega
  refine ⟨h.1, h.2, h.3, by have := h.t0; omega, hT, ?_, .inr ?_⟩
  · intro i hi hm
    rw [takS_at _ _ _ _ hi] at hm
    rw [Bool.or_eq_true] at hm
    rcases hm with hm | hm
    · have := of_decide_eq_true hm
      omega
    · have hb := metB_lt hm
      rw [metB_of hb.1 hb.2] at hm
      have := h.low _ (by omega) hm
      omega
  · rw [takS_at _ _ _ _ (by omega)]
    by_cases hc : t ≤ n
    · have : takT t n = n + 1 := by unfold takT; rw [if_pos hc]
      rw [decide_eq_true (by omega)]
      simp
    · have hT2 : takT t n = t := by unfold takT; rw [if_neg hc]
      rw [hT2, metB_at t l 7 (by omega)]
      rcases h.top with h7 | h7
      · have := h.t0; omega
      · rw [h7]; simp
theorem OkC.sent {key : List Int} {s t : Int} {l : List Bool} (h : OkC key s t l) (s' : Int) (h0 : 0 ≤ s') (h1 : s' ≤ 1073741824) : OkC key s' t l := ⟨h.1, h0, h1, h.4, h.5, h.6, h.7⟩
def noB : List Bool := List.replicate 8 false
theorem noB_length : noB.length = 8 := rfl
theorem noB_at (k : Nat) : noB.getD k false = false := by
  rw [noB, List.getD_eq_getElem?_getD, List.getElem?_replicate]
  split <;> rfl
theorem metB_no (t x : Int) : metB t noB x = false := by unfold metB; rw [noB_at]; simp
theorem OkC.new {key : List Int} (hk : key.length = 32) (s : Int) (h0 : 0 ≤ s) (h1 : s ≤ 1073741824) : OkC key s 0 noB :=
  ⟨hk, h0, h1, by omega, by omega, (fun i _ h => by rw [noB_at] at h; exact absurd h (by simp)), .inl rfl⟩
theorem oldB_ge {t : Int} {l : List Bool} {n : Int} (h : t ≤ n) : oldB t l n = false := by unfold oldB; rw [decide_eq_false (by omega)]; simp
theorem oldB_of {t : Int} {l : List Bool} {n : Int} (h : t - 8 ≤ n) : oldB t l n = metB t l n := by
  by_cases h2 : n < t
  · unfold oldB; rw [decide_eq_true h2, decide_eq_false (show ¬ n < t - 8 by omega)]; simp
  · rw [oldB_ge (by omega), metB_ge (by omega)]
theorem oldB_low {t : Int} {l : List Bool} {n : Int} (h : n < t - 8) : oldB t l n = true := by unfold oldB; rw [decide_eq_true (show n < t by omega), decide_eq_true h]; simp

/-- the head of a number, the nonce of a head, the number of a head -/
def headL (n : Int) : List Int := [n / 16777216 % 256, n / 65536 % 256, n / 256 % 256, n % 256]
def nonceL (h : List Int) : List Int := List.replicate 8 0 ++ h
def numL (h : List Int) : Int := 16777216 * h.getD 0 0 + 65536 * h.getD 1 0 + 256 * h.getD 2 0 + h.getD 3 0
theorem headL_length (n : Int) : (headL n).length = 4 := rfl
theorem headL_byte (n : Int) : ∀ x ∈ headL n, 0 ≤ x ∧ x < 256 := by
  intro x hx
  simp only [headL, List.mem_cons, List.not_mem_nil, or_false] at hx
  rcases hx with rfl | rfl | rfl | rfl <;> omega
theorem nonceL_length {h : List Int} (hh : h.length = 4) : (nonceL h).length = 12 := by simp [nonceL, hh]
theorem nonceL_byte {h : List Int} (hb : ∀ x ∈ h, 0 ≤ x ∧ x < 256) : ∀ x ∈ nonceL h, 0 ≤ x ∧ x < 256 := by
  intro x hx
  rcases List.mem_append.1 hx with h1 | h1
  · rw [(List.mem_replicate.1 h1).2]; omega
  · exact hb x h1
theorem numL_head (n : Int) (h0 : 0 ≤ n) (h1 : n < 4294967296) : numL (headL n) = n := by
  show 16777216 * (n / 16777216 % 256) + 65536 * (n / 65536 % 256) + 256 * (n / 256 % 256) + n % 256 = n
  omega
theorem four (h : List Int) (hh : h.length = 4) : ∃ a b c d, h = [a, b, c, d] := by
  match h, hh with
  | [a, b, c, d], _ => exact ⟨a, b, c, d, rfl⟩
theorem headL_num {h : List Int} (hh : h.length = 4) (hb : ∀ x ∈ h, 0 ≤ x ∧ x < 256) : headL (numL h) = h := by
  obtain ⟨a, b, c, d, rfl⟩ := four h hh
  have h1 := hb a (by simp)
  have h2 := hb b (by simp)
  have h3 := hb c (by simp)
  have h4 := hb d (by simp)
  show [(16777216 * a + 65536 * b + 256 * c + d) / 16777216 % 256, (16777216 * a + 65536 * b + 256 * c + d) / 65536 % 256, (16777216 * a + 65536 * b + 256 * c + d) / 256 % 256, (16777216 * a + 65536 * b + 256 * c + d) % 256] = [a, b, c, d]
  congr 1
  · omega
  congr 1
  · omega
  congr 1
  · omega
  congr 1
  omega
theorem numL_range {h : List Int} (hh : h.length = 4) (hb : ∀ x ∈ h, 0 ≤ x ∧ x < 256) : 0 ≤ numL h ∧ numL h < 4294967296 := by
  obtain ⟨a, b, c, d, rfl⟩ := four h hh
  have h1 := hb a (by simp)
  have h2 := hb b (by simp)
  have h3 := hb c (by simp)
  have h4 := hb d (by simp)
  show 0 ≤ 16777216 * a + 65536 * b + 256 * c + d ∧ 16777216 * a + 65536 * b + 256 * c + d < 4294967296
  omega

end Go.Proofs.YtakgfdbjgeopdaaGreatDoor
/-
  The walks of the program's windows.
-/
namespace Go.Proofs.YtakgfdbjgeopdaaGreatDoor
open Go.RowKit
set_option linter.unusedVariables false

theorem seenInfo {l : List Bool} (hl : l.length = 8) : (Tryz.prog.info? 53).map (·.size) = some (l.map Value.bool).length := by rw [List.length_map, hl]; kernel_rfl
theorem wInfo {t : Int} {l : List Bool} (hl : l.length = 8) : (Tryz.prog.info? 190).map (·.size) = some (wA t l).size := by rw [wA_size, hl]; kernel_rfl
theorem chA_range {w : World} {g : Nat} {k : Value} {s t : Int} {l : List Bool} {ty : TypeId} {fr : Nat × Nat} (h : w.heap[g]? = some (.cells (chA k s t l) ty fr)) : w.rangeAt g 3 (l.map Value.bool) := by
  intro j v hj
  have hjl : j < l.length := by simpa using (List.getElem?_eq_some_iff.1 hj).1
  rw [cell_of_row _ _ (3 + j) _ _ _ h, chA_seen k s t l j hjl]
  simpa [List.getElem?_eq_getElem hjl] using hj

theorem results_row2 {P : Program} {fn : Func} {p u : Tmp} {ty : TypeId} (h : fn.results = #[.cell p ty, .tmp u]) (tmps : Array Value) (w : World) (g : Nat) (t : TypeId) (cs : Array Value) (fr : Nat × Nat) (d : TypeDesc)
    (hp : tmps.getD p undef = .pointer (some ⟨g, 0, none⟩)) (hg : w.heap[g]? = some (.cells cs t fr))
    (hu : P.underlying ty = some d) (hd : (match d with | .struct _ | .array _ _ => true | _ => false) = true) (hi : (P.info? ty).map (·.size) = some cs.size) :
    (results fn tmps).run P w = .ok (.tuple #[.agg cs, tmps.getD u undef]) w := by
  have hp' : tmps[p]?.getD undef = .pointer (some ⟨g, 0, none⟩) := by simpa using hp
  simp [results, h, hp', asAddr, run_loadVar_row w g t ty cs fr d hg hu hd hi]
theorem results_row3 {P : Program} {fn : Func} {p u v : Tmp} {ty : TypeId} (h : fn.results = #[.cell p ty, .tmp u, .tmp v]) (tmps : Array Value) (w : World) (g : Nat) (t : TypeId) (cs : Array Value) (fr : Nat × Nat) (d : TypeDesc)
    (hp : tmps.getD p undef = .pointer (some ⟨g, 0, none⟩)) (hg : w.heap[g]? = some (.cells cs t fr))
    (hu : P.underlying ty = some d) (hd : (match d with | .struct _ | .array _ _ => true | _ => false) = true) (hi : (P.info? ty).map (·.size) = some cs.size) :
    (results fn tmps).run P w = .ok (.tuple #[.agg cs, tmps.getD u undef, tmps.getD v undef]) w := by
  have hp' : tmps[p]?.getD undef = .pointer (some ⟨g, 0, none⟩) := by simpa using hp
  simp [results, h, hp', asAddr, run_loadVar_row w g t ty cs fr d hg hu hd hi]

def blA (l : List Bool) : Array Value := (l.map Value.bool).toArray
theorem to8 {j : Nat} (h : j < 8) : j = 0 ∨ j = 1 ∨ j = 2 ∨ j = 3 ∨ j = 4 ∨ j = 5 ∨ j = 6 ∨ j = 7 := by omega
set_option maxRecDepth 100000 in
theorem bl_index (S : List Bool) (hS : S.length = 8) (j : Nat) (hj : j < 8) : ∀ w, (Instr.index 53 (.agg (blA S)) (.int .i64 (j : Int))).run Tryz.prog w = .ok (.bool (S.getD j false)) w := by
  intro w
  obtain ⟨b0, b1, b2, b3, b4, b5, b6, b7, rfl⟩ := eight S hS
  rcases to8 hj with rfl | rfl | rfl | rfl | rfl | rfl | rfl | rfl
  all_goals kernel_rfl

set_option maxHeartbeats 1000000 in
theorem windowOf_any (k : Value) (s t : Int) (l : List Bool) (w : World) (hl : l.length = 8) :
    Calls Tryz.prog 134 #[.agg (chA k s t l)] w fun e w' => e = .returned (.agg (wA t l)) ∧ Below w.heap.size w w' := by
  obtain ⟨b0, b1, b2, b3, b4, b5, b6, b7, rfl⟩ := eight l hl
  simp only [chA, wA, List.map]
  go_enter Tryz.func134, Tryz.ntmps134
  go_wp2
  exact bodyPost_ret (v := .agg (wA t [b0, b1, b2, b3, b4, b5, b6, b7])) (results_cell_row rfl _ _ (w.heap.size + 1) 190 _ (0, 0) _ rfl (heap_alloc2_new _ _ _) Tryz.underlying190 rfl (wInfo rfl)) rfl ⟨rfl, ((Below.refl _ _).alloc (Nat.le_refl _) _).alloc (by simp) _⟩

set_option maxHeartbeats 1000000 in
theorem lowest_any (t : Int) (l : List Bool) (w : World) (hl : l.length = 8) (t0 : -1000 ≤ t) (t1 : t ≤ 4611686018427387904) :
    Calls Tryz.prog 178 #[.agg (wA t l)] w fun e w' => e = .returned (.int .i64 (t - 8)) ∧ Below w.heap.size w w' := by
  obtain ⟨b0, b1, b2, b3, b4, b5, b6, b7, rfl⟩ := eight l hl
  simp only [wA, List.map]
  go_enter Tryz.func178, Tryz.ntmps178
  go_wp2
  go_ret
  exact ⟨rfl, (Below.refl _ _).alloc (Nat.le_refl _) _⟩

set_option maxHeartbeats 1000000 in
theorem isOld_any (t n : Int) (l : List Bool) (w : World) (hl : l.length = 8) (t0 : 0 ≤ t) (t1 : t ≤ 1073741824) (n0 : 0 ≤ n) (n1 : n < 1073741824) :
    Calls Tryz.prog 197 #[.agg (wA t l), .int .i64 n] w fun e w' => e = .returned (.bool (oldB t l n)) ∧ Below w.heap.size w w' := by
  have hl' := hl
  obtain ⟨b0, b1, b2, b3, b4, b5, b6, b7, rfl⟩ := eight l hl
  simp only [wA, List.map]
  by_cases h1 : t ≤ n
  · have HO : Hid (false = oldB t [b0, b1, b2, b3, b4, b5, b6, b7] n) := (oldB_ge h1).symm
    go_enter Tryz.func197, Tryz.ntmps197
    go_wp2
    go_ret
    exact ⟨ret_bool HO.out, (Below.refl _ _).alloc (Nat.le_refl _) _⟩
  · have hb : Below w.heap.size w (w.alloc (.cells (wA t [b0, b1, b2, b3, b4, b5, b6, b7]) 190)) := (Below.refl _ _).alloc (Nat.le_refl _) _
    go_enter Tryz.func197, Tryz.ntmps197
    go_wp2_with fail
    have hrow : (w.alloc (.cells (wA t [b0, b1, b2, b3, b4, b5, b6, b7]) 190)).heap[w.heap.size]? = some (.cells (wA t [b0, b1, b2, b3, b4, b5, b6, b7]) 190 (0, 0)) := heap_alloc_new _ _
    refine (lowest_any t [b0, b1, b2, b3, b4, b5, b6, b7] _ rfl (by omega) (by omega)).mono ?_
    rintro e w1 ⟨rfl, c1⟩
    have d1 : Below w.heap.size w w1 := hb.trans (c1.mono (by simp))
    replace hrow := (c1.block w.heap.size (by simp)).trans hrow
    clear hb c1
    by_cases h2 : n < t - 8
    · have HO : Hid (true = oldB t [b0, b1, b2, b3, b4, b5, b6, b7] n) := (oldB_low h2).symm
      go_wp2
      go_ret
      exact ⟨ret_bool HO.out, d1⟩
    · have h3 : n < t := by omega
      obtain ⟨i, hi, hn⟩ : ∃ i : Nat, i < 8 ∧ n = t - 8 + (i : Int) := ⟨(n - (t - 8)).toNat, by omega, by omega⟩
      have HO : Hid (oldB t [b0, b1, b2, b3, b4, b5, b6, b7] n = [b0, b1, b2, b3, b4, b5, b6, b7].getD i false) := by
        unfold Hid
        rw [oldB_of (by omega), hn, metB_at _ _ _ hi]
      have HN : Hid (n = t - 8 + (i : Int)) := hn
      have cs := (cell_of_row _ _ (1 + i) _ _ _ hrow).trans (wA_seen t _ i hi)
      obtain ⟨c0, c1, c2, c3, c4, c5, c6, c7, c8⟩ := wA_cells hrow
      have hz : w.heap.size < w1.heap.size := (Array.getElem?_eq_some_iff.1 hrow).1
      clear hn
      generalize [b0, b1, b2, b3, b4, b5, b6, b7].getD i false = c at cs HO
      go_wp2_with fail
      refine (lowest_any t [b0, b1, b2, b3, b4, b5, b6, b7] _ rfl (by omega) (by omega)).mono ?_
      rintro e w2 ⟨rfl, e2⟩
      have d2 : Below w.heap.size w w2 := d1.trans (e2.mono d1.size)
      replace cs := (e2.cell (p := ⟨w.heap.size, 1 + i, none⟩) hz).trans cs
      have hii : n - (t - 8) = (i : Int) := by have := HN.out; omega
      clear c0 c1 c2 c3 c4 c5 c6 c7 c8 hrow e2
      go_wp2
      go_ret
      exact ⟨ret_bool (by rw [HO.out, decide_eq_false (by omega), Bool.false_or]), d2⟩


set_option maxHeartbeats 1000000 in
set_option maxRecDepth 100000 in
theorem mayBe_any (t : Int) (l : List Bool) (w : World) (hl : l.length = 8) (t0 : 0 ≤ t) (t1 : t ≤ 1073741824) :
    Calls Tryz.prog 135 #[.agg (wA t l)] w fun e w' => e = .returned (.bool (mayB t l)) ∧ Below w.heap.size w w' := by
  have HS : Hid (∀ i : Nat, i < 8 → ∀ w, (Instr.index 53 (.agg (blA l)) (.int .i64 (i : Int))).run Tryz.prog w = .ok (.bool (l.getD i false)) w) := fun i hi => bl_index l hl i hi
  obtain ⟨b0, b1, b2, b3, b4, b5, b6, b7, rfl⟩ := eight l hl
  simp only [wA, blA, List.map] at HS ⊢
  go_enter Tryz.func135, Tryz.ntmps135
  go_wp2_with fail
  have hrow : (w.alloc (.cells (wA t [b0, b1, b2, b3, b4, b5, b6, b7]) 190)).heap[w.heap.size]? = some (.cells (wA t [b0, b1, b2, b3, b4, b5, b6, b7]) 190 (0, 0)) := heap_alloc_new _ _
  have hsz : (w.alloc (.cells (wA t [b0, b1, b2, b3, b4, b5, b6, b7]) 190)).heap.size = w.heap.size + 1 := by simp
  have b0' : Below w.heap.size w (w.alloc (.cells (wA t [b0, b1, b2, b3, b4, b5, b6, b7]) 190)) := (Below.refl _ _).alloc (Nat.le_refl _) _
  simp only [wA, List.map] at hrow hsz b0'
  generalize w.alloc (.cells #[.int .i64 t, .bool b0, .bool b1, .bool b2, .bool b3, .bool b4, .bool b5, .bool b6, .bool b7] 190) = W0 at hrow hsz b0' ⊢
  generalize (#[.bool b0, .bool b1, .bool b2, .bool b3, .bool b4, .bool b5, .bool b6, .bool b7] : Array Value) = S at HS ⊢
  go_loopw [7] (fun iv wr => ∃ i : Nat, i ≤ 8 ∧ iv = .int .i64 i ∧ Hid (∀ j : Nat, j < i → [b0, b1, b2, b3, b4, b5, b6, b7].getD j false = true → 0 ≤ t - 8 + (j : Int)) ∧ Below (w.heap.size + 1) W0 wr) (fun iv _ => 8 - (intOf iv).toNat)
  case atStart => exact ⟨0, by omega, rfl, fun j hj => by omega, Below.refl _ _⟩
  case round =>
    obtain ⟨i, hi, rfl, hold, hbel⟩ := hrel
    have hr := (hbel.block w.heap.size (by omega)).trans hrow
    obtain ⟨c0, c1, c2, c3, c4, c5, c6, c7, c8⟩ := wA_cells hr
    have dW : Below w.heap.size w wr := b0'.trans (hbel.mono (by omega))
    have hzr := hbel.size
    by_cases hi8 : i < 8
    · have hii : (i : Int) < 8 := by omega
      have hx := HS.out i hi8
      cases hb : [b0, b1, b2, b3, b4, b5, b6, b7].getD i false with
      | true =>
        rw [hb] at hx
        have HBI : Hid ([b0, b1, b2, b3, b4, b5, b6, b7].getD i false = true) := hb
        clear hb hr
        go_wp2_with fail
        refine (lowest_any t [b0, b1, b2, b3, b4, b5, b6, b7] _ rfl (by omega) (by omega)).mono ?_
        rintro e w2 ⟨rfl, e2⟩
        have d2 : Below w.heap.size w w2 := dW.trans (e2.mono dW.size)
        have hb2 : Below (w.heap.size + 1) W0 w2 := hbel.trans (e2.mono (by omega))
        clear c0 c1 c2 c3 c4 c5 c6 c7 c8 e2 hbel
        by_cases hneg : t - 8 + (i : Int) < 0
        · have HF : Hid (false = mayB t [b0, b1, b2, b3, b4, b5, b6, b7]) := by
            unfold Hid
            symm
            rw [Bool.eq_false_iff]
            intro hm
            have := ((mayB_iff _ _).1 hm).1 i hi8 HBI.out
            omega
          go_wp2
          go_ret
          exact ⟨ret_bool HF.out, d2⟩
        · go_wp2
          go_roundw
          case rel =>
            refine ⟨i + 1, by omega, by go_num, ?_, hb2⟩
            intro j hj hbj
            rcases Nat.lt_or_ge j i with h | h
            · exact hold.out j h hbj
            · obtain rfl : j = i := by omega
              omega
          case measure => simp [intOf]; omega
      | false =>
        rw [hb] at hx
        have HBI : Hid ([b0, b1, b2, b3, b4, b5, b6, b7].getD i false = false) := hb
        clear hb hr
        go_wp2
        go_roundw
        case rel =>
          refine ⟨i + 1, by omega, by go_num, ?_, hbel⟩
          intro j hj hbj
          rcases Nat.lt_or_ge j i with h | h
          · exact hold.out j h hbj
          · obtain rfl : j = i := by omega
            rw [HBI.out] at hbj
            cases hbj
        case measure => simp [intOf]; omega
    · obtain rfl : i = 8 := by omega
      rw [show ((8 : Nat) : Int) = 8 from rfl]
      have HM : Hid ((decide (t = 0) || b7) = mayB t [b0, b1, b2, b3, b4, b5, b6, b7]) := by
        unfold Hid
        rw [Bool.eq_iff_iff, mayB_iff, Bool.or_eq_true]
        constructor
        · intro h
          exact ⟨hold.out, h.imp of_decide_eq_true id⟩
        · intro h
          exact h.2.imp decide_eq_true id
      clear hr HS
      go_wp2
      all_goals
        rename_i ht
        go_ret
        refine ⟨ret_bool ?_, dW⟩
        rw [← HM.out]
        simp [ht]

end Go.Proofs.YtakgfdbjgeopdaaGreatDoor
