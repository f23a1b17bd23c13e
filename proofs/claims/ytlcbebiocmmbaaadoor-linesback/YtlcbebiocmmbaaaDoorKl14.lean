/-
  What the library's functions on texts answer, in lists of bytes.
-/
import Derived.Test.YtlcbebiocmmbaaaDoorKl12
import Derived.Test.YtlcbebiocmmbaaaDoorKl13
import Derived.Test.YtlcbebiocmmbaaaDoorKl10
import Derived.Test.YtlcbebiocmmbaaaDoorShelfR
namespace Go.Proofs.YtlcbebiocmmbaaaDoor
open Go.RowKit
set_option linter.unusedVariables false

def u8 (c : Int) : UInt8 := UInt8.ofNat c.toNat
theorem str_data (l : List Int) : (strOfNums l).data.toList = l.map u8 := by rw [strOfNums_data]; rfl
theorem u8_inj {a b : Int} (ha : 0 ≤ a ∧ a < 256) (hb : 0 ≤ b ∧ b < 256) : u8 a = u8 b ↔ a = b := by
  constructor
  · intro h
    have e : (UInt8.ofNat a.toNat).toNat = (UInt8.ofNat b.toNat).toNat := by unfold u8 at h; rw [h]
    have e1 : (UInt8.ofNat a.toNat).toNat = a.toNat := by simp; omega
    have e2 : (UInt8.ofNat b.toNat).toNat = b.toNat := by simp; omega
    omega
  · intro h; rw [h]
theorem u8_of (c : Int) : c.toNat.toUInt8 = u8 c := rfl
/-- the place of a byte; -1: there is none -/
def idxB : List Int → Int → Int
  | [], _ => -1
  | b :: l, c => if b = c then 0 else if idxB l c = -1 then -1 else idxB l c + 1
theorem idxB_lib {l : List Int} (hl : ∀ x ∈ l, 0 ≤ x ∧ x < 256) {c : Int} (hc : 0 ≤ c ∧ c < 256) : Lib.indexByte (l.map u8) (u8 c) = idxB l c := by
  induction l with
  | nil => rfl
  | cons b l ih =>
    have hb := hl b (by simp)
    have ih := ih (fun x hx => hl x (by simp [hx]))
    rw [List.map_cons, Lib.indexByte, idxB, ih]
    by_cases e : b = c
    · rw [if_pos (by rw [beq_iff_eq]; exact (u8_inj hb hc).2 e), if_pos e]
    · rw [if_neg (by rw [beq_iff_eq]; exact fun h => e ((u8_inj hb hc).1 h)), if_neg e]
      by_cases e2 : idxB l c = -1
      · rw [if_pos (by rw [beq_iff_eq]; exact e2), if_pos e2]
      · rw [if_neg (by rw [beq_iff_eq]; exact e2), if_neg e2]
theorem indexByte_any (l : List Int) (hl : ∀ x ∈ l, 0 ≤ x ∧ x < 256) (c : Int) (hc : 0 ≤ c ∧ c < 256) (w : World) :
    Calls Tryd.prog 45 #[.string (strOfNums l), .int .u8 c] w fun e w' => e = .returned (.int .i64 (idxB l c)) ∧ w' = w := by
  have h := Tryd.strings_IndexByte (strOfNums l) c w
  rw [str_data, u8_of, idxB_lib hl hc] at h
  exact h
def dig16 : List Int := [48, 49, 50, 51, 52, 53, 54, 55, 56, 57, 97, 98, 99, 100, 101, 102]
def dig10 : List Int := [48, 49, 50, 51, 52, 53, 54, 55, 56, 57]
theorem idx16 (c : Int) (hc : 0 ≤ c ∧ c < 256) : idxB dig16 c = hxV c := by
  have key : ∀ n : Nat, n < 256 → idxB dig16 (n : Int) = hxV (n : Int) := by decide +kernel
  have := key c.toNat (by omega)
  rwa [Int.toNat_of_nonneg hc.1] at this
def dgV (c : Int) : Int := if 48 ≤ c ∧ c ≤ 57 then c - 48 else -1
theorem idx10 (c : Int) (hc : 0 ≤ c ∧ c < 256) : idxB dig10 c = dgV c := by
  have key : ∀ n : Nat, n < 256 → idxB dig10 (n : Int) = dgV (n : Int) := by decide +kernel
  have := key c.toNat (by omega)
  rwa [Int.toNat_of_nonneg hc.1] at this
/-- the first byte's place -/
theorem idxB_no {l : List Int} {c : Int} (h : c ∉ l) : idxB l c = -1 := by
  induction l with
  | nil => rfl
  | cons b l ih =>
    simp only [List.mem_cons, not_or] at h
    rw [idxB, if_neg (fun e => h.1 e.symm), ih h.2, if_pos rfl]
theorem idxB_at {x : List Int} {c : Int} (h : c ∉ x) (r : List Int) : idxB (x ++ c :: r) c = x.length := by
  induction x with
  | nil => rw [List.nil_append, idxB, if_pos rfl]; rfl
  | cons b l ih =>
    simp only [List.mem_cons, not_or] at h
    rw [List.cons_append, idxB, if_neg (fun e => h.1 e.symm), ih h.2, if_neg (by omega)]
    simp
/-- parted at the first so many blanks -/
def splitP : Nat → List Int → List (List Int)
  | 0, s => [s]
  | k + 1, s => match splitB s with
    | [] => [s]
    | [_] => [s]
    | x :: _ :: _ => x :: splitP k (s.drop (x.length + 1))
theorem split_two {s x : List Int} {r : List (List Int)} (h : splitB s = x :: r) (hr : r ≠ []) : s = x ++ 32 :: joinB r ∧ 32 ∉ x ∧ splitB (s.drop (x.length + 1)) = r := by
  have h1 := splitB_join s
  have hx : 32 ∉ x := splitB_no s x (by rw [h]; simp)
  obtain ⟨y, t, rfl⟩ := List.exists_cons_of_ne_nil hr
  rw [h, joinB] at h1
  refine ⟨h1.symm, hx, ?_⟩
  have e : s.drop (x.length + 1) = joinB (y :: t) := by rw [← h1]; simp
  rw [e]
  exact splitB_joinB (by simp) (fun z hz => splitB_no s z (by rw [h]; simp [hz]))
theorem split_one {s x : List Int} (h : splitB s = [x]) : x = s ∧ 32 ∉ s := by
  have h1 := splitB_join s
  rw [h] at h1
  have hx : 32 ∉ x := splitB_no s x (by rw [h]; simp)
  simp only [joinB] at h1
  subst h1
  exact ⟨rfl, hx⟩
theorem splitP_few (k : Nat) (s : List Int) (h : (splitB s).length ≤ k + 1) : splitP k s = splitB s := by
  induction k generalizing s with
  | zero =>
    obtain ⟨x, r, e⟩ := List.exists_cons_of_ne_nil (splitB_ne s)
    rw [e] at h ⊢
    have hr : r = [] := by simpa using h
    subst hr
    rw [(split_one e).1]
    rfl
  | succ k ih =>
    rw [splitP]
    match hs : splitB s with
    | [] => exact absurd hs (splitB_ne s)
    | [x] => rw [(split_one hs).1]
    | x :: y :: t =>
      have h2 := (split_two hs (by simp)).2.2
      simp only
      rw [ih _ (by rw [h2]; rw [hs] at h; simpa using h), h2]
theorem splitP_many (k : Nat) (s : List Int) (h : k + 1 ≤ (splitB s).length) : (splitP k s).length = k + 1 := by
  induction k generalizing s with
  | zero => rfl
  | succ k ih =>
    rw [splitP]
    match hs : splitB s with
    | [] => exact absurd hs (splitB_ne s)
    | [x] => rw [hs] at h; simp at h
    | x :: y :: t =>
      have h2 := (split_two hs (by simp)).2.2
      simp only [List.length_cons]
      rw [ih _ (by rw [h2]; rw [hs] at h; simpa using h)]
theorem splitP_head (k : Nat) (s : List Int) {x : List Int} {r : List (List Int)} (h : splitB s = x :: r) : ∃ r', splitP (k + 1) s = x :: r' := by
  rw [splitP, h]
  match r, h with
  | [], h => exact ⟨[], by rw [(split_one h).1]⟩
  | y :: t, h => exact ⟨_, rfl⟩
/-- the library's index of one byte -/
theorem index_one {l : List Int} (hl : ∀ x ∈ l, 0 ≤ x ∧ x < 256) {c : Int} (hc : 0 ≤ c ∧ c < 256) : Lib.index (l.map u8) [u8 c] = idxB l c := by
  induction l with
  | nil => rfl
  | cons b l ih =>
    have hb := hl b (by simp)
    have ih := ih (fun x hx => hl x (by simp [hx]))
    rw [List.map_cons, Lib.index, idxB, ih]
    have hp : ([u8 c] : List UInt8).isPrefixOf (u8 b :: l.map u8) = decide (b = c) := by
      rw [Bool.eq_iff_iff, decide_eq_true_iff]
      simp only [List.isPrefixOf, Bool.and_true, beq_iff_eq]
      rw [u8_inj hc hb]
      exact eq_comm
    rw [hp]
    by_cases e : b = c
    · rw [if_pos e, if_pos (by simpa using e)]
    · rw [if_neg e, if_neg (by simpa using e)]
      by_cases e2 : idxB l c = -1
      · rw [if_pos (by rw [beq_iff_eq]; exact e2), if_pos e2]
      · rw [if_neg (by rw [beq_iff_eq]; exact e2), if_neg e2]
theorem indexB_one {l : List Int} (hl : ∀ x ∈ l, 0 ≤ x ∧ x < 256) {c : Int} (hc : 0 ≤ c ∧ c < 256) : Lib.indexB (strOfNums l) (strOfNums [c]) = idxB l c := by
  have h := index_one hl hc
  rw [← str_data] at h
  exact h
theorem splitB_lib (k : Nat) (s : List Int) (hs : ∀ x ∈ s, 0 ≤ x ∧ x < 256) : Lib.splitB (strOfNums [32]) 0 k (strOfNums s) = (splitP k s).map strOfNums := by
  induction k generalizing s with
  | zero => rfl
  | succ k ih =>
    have hi := indexB_one hs (c := 32) (by omega)
    rw [splitP]
    match hw : splitB s with
    | [] => exact absurd hw (splitB_ne s)
    | [x] =>
      rw [Lib.splitB_miss _ _ _ _ (by rw [hi]; exact idxB_no (split_one hw).2)]
      rfl
    | x :: y :: t =>
      obtain ⟨h1, h2, h3⟩ := split_two hw (by simp)
      have hx : idxB s 32 = ((x.length : Nat) : Int) := by
        conv => lhs; rw [h1]
        exact idxB_at h2 _
      rw [Lib.splitB_hit _ _ _ _ x.length (by rw [hi, hx])]
      simp only [List.map_cons]
      have e1 : (strOfNums s).extract 0 (x.length + 0) = strOfNums x := by
        rw [str_cut, h1]
        simp
      have e2 : (strOfNums s).extract (x.length + (strOfNums [32]).size) (strOfNums s).size = strOfNums (s.drop (x.length + 1)) := by
        rw [str_cut, str_size, str_size]
        simp
      rw [e1, e2, ih _ (fun c hc => hs c (List.mem_of_mem_drop hc))]
/-- a row of texts, as the library lays it -/
theorem Ss.ofCells {w : World} {l : List (List Int)} {N : Nat} (hl : l.length ≤ N) (hN : l.length ≤ 4000000000) : Ss (w.alloc (.cells (Lib.cellsOf (l.map strOfNums) N) 9)) (.slice (some ⟨w.heap.size, 0, none⟩) l.length N) l := by
  refine ⟨⟨w.heap.size, 0, N, rfl, by simp, hl, fun i hi => ?_⟩, hN⟩
  rw [cell_of_row _ _ _ _ _ _ (heap_alloc_new _ _)]
  unfold Lib.cellsOf
  rw [List.getElem?_toArray, List.getElem?_append_left (by simp; omega)]
  simp [List.getD, List.getElem?_eq_getElem hi]
/-- SplitN of a text at single blanks, six pieces at most -/
theorem splitN_any (s : List Int) (hs : ∀ x ∈ s, 0 ≤ x ∧ x < 256) (hl : s.length ≤ 4000000) (w : World) (hm : Hid (∃ m, w.cell? ⟨2, 0, none⟩ = some (.int .i64 m))) :
    Calls Tryd.prog 47 #[.string (strOfNums s), .string (strOfNums [32]), .int .i64 6] w fun e w' => ∃ v, e = .returned v ∧ Ss w' v (splitP 5 s) ∧ Below w.heap.size w w' := by
  obtain ⟨m, hm⟩ := hm.out
  have h := Tryd.strings_SplitN (strOfNums s) (strOfNums [32]) 6 m w (by rw [str_size]; omega) hm (by rw [str_size]; simp) (by omega) (by omega)
  refine h.mono ?_
  rintro e w' ⟨rfl, rfl⟩
  rw [splitB_lib _ _ hs, str_size, List.length_map]
  have hk : splitP (min 6 (s.length + 1) - 1) s = splitP 5 s := by
    by_cases h5 : 5 ≤ s.length
    · rw [Nat.min_eq_left (by omega)]
    · have := splitB_len s
      rw [splitP_few 5 s (by omega), splitP_few _ s (by omega)]
  rw [hk]
  have hlen : (splitP 5 s).length ≤ min 6 (s.length + 1) := by
    have := splitB_len s
    by_cases h6 : (splitB s).length ≤ 6
    · rw [splitP_few 5 s h6]; omega
    · rw [splitP_many 5 s (by omega)]; omega
  exact ⟨_, rfl, Ss.ofCells hlen (by omega), (Below.refl _ _).alloc (Nat.le_refl _) _⟩
/-- a line feed at the end is cut off -/
theorem cutSuffix_any (s : List Int) (hs : ∀ x ∈ s, 0 ≤ x ∧ x < 256) (hl : s.length ≤ 140737488351232) (w : World) :
    Calls Tryd.prog 46 #[.string (strOfNums s), .string (strOfNums [10])] w fun e w' => (∃ b, s = b ++ [10] ∧ e = .returned (.tuple #[.string (strOfNums b), .bool true]) ∧ w' = w) ∨ ((∀ b, s ≠ b ++ [10]) ∧ e = .returned (.tuple #[.string (strOfNums s), .bool false]) ∧ w' = w) := by
  refine (Tryd.strings_CutSuffix (strOfNums s) (strOfNums [10]) w (by rw [str_size]; omega)).mono ?_
  rintro e w' ⟨rfl, rfl⟩
  rw [str_data, str_data]
  by_cases h : ∃ b, s = b ++ [10]
  · obtain ⟨b, rfl⟩ := h
    left
    refine ⟨b, rfl, ?_, rfl⟩
    have h1 : Lib.hasSuffix ((b ++ [10]).map u8) ([10].map u8) = true := by
      unfold Lib.hasSuffix
      rw [List.isSuffixOf_iff_suffix]
      exact ⟨b.map u8, by simp⟩
    rw [Lib.trimSuffix, if_pos h1, h1]
    have h2 : ((b ++ [10]).map u8).take (((b ++ [10]).map u8).length - ([10].map u8).length) = b.map u8 := by simp
    rw [h2]
    rfl
  · right
    have hne : ∀ b, s ≠ b ++ [10] := fun b e => h ⟨b, e⟩
    refine ⟨hne, ?_, rfl⟩
    have h1 : Lib.hasSuffix (s.map u8) ([10].map u8) = false := by
      rw [Bool.eq_false_iff]
      intro h2
      unfold Lib.hasSuffix at h2
      rw [List.isSuffixOf_iff_suffix] at h2
      obtain ⟨t, ht⟩ := h2
      by_cases e : s = []
      · rw [e] at ht; simp at ht
      · have h3 := List.dropLast_concat_getLast e
        have h4 : u8 (s.getLast e) = u8 10 := by
          rw [← h3] at ht
          simp only [List.map_append, List.map_cons, List.map_nil] at ht
          have h5 := List.append_inj' ht rfl
          simpa using h5.2.symm
        have h6 := (u8_inj (hs _ (List.getLast_mem e)) (by omega)).1 h4
        rw [h6] at h3
        exact hne _ h3.symm
    rw [Lib.trimSuffix, h1]
    rfl
end Go.Proofs.YtlcbebiocmmbaaaDoor
