/-
  The walks of the program's kinds of words, and of how many pieces their lines have.
-/
import Derived.Test.YtlcbebiocmmbaaaDoorKl11
import Derived.Test.YtlcbebiocmmbaaaDoorKl8
namespace Go.Proofs.YtlcbebiocmmbaaaDoor
open Go.RowKit
set_option linter.unusedVariables false

set_option maxHeartbeats 2000000 in
set_option maxRecDepth 100000 in
theorem kindOf_any (s : List Int) (hb : ∀ x ∈ s, 0 ≤ x ∧ x < 256) (w : World) (ht : LWTab w) :
    Calls Tryd.prog 48 #[.string (strOfNums s)] w fun e w' => e = .returned (.int .i64 (kindW s)) ∧ w' = w := by
  go_enter Tryd.func48, Tryd.ntmps48
  go_wp2_with fail
  go_loopw [3] (fun kv wr => ∃ k : Nat, 1 ≤ k ∧ k ≤ 10 ∧ kv = .int .i64 (k : Int) ∧ Hid (∀ j : Int, 1 ≤ j → j < (k : Int) → wordL j ≠ s) ∧ wr = w) (fun kv _ => (10 - intOf kv).toNat)
  case atStart => exact ⟨1, by omega, by omega, rfl, fun j _ _ => by omega, rfl⟩
  case round =>
    obtain ⟨k, k1, k10, rfl, HNO, hwr⟩ := hrel
    subst hwr
    go_wp2_with fail
    refine (lKind_any _ _).mono ?_
    rintro e w' ⟨rfl, hw'⟩
    subst hw'
    by_cases hk9 : k < 10
    · rw [decide_eq_true (show (1 : Int) ≤ (k : Int) ∧ (k : Int) ≤ 9 by omega)]
      have ix := runIndexW k hk9
      have cx := ht.text k hk9
      by_cases hfw : wordL (k : Int) = s
      · have HK : Hid (kindW s = (k : Int)) := by unfold Hid; rw [← hfw]; exact kindW_word ⟨by omega, by omega⟩
        rw [hfw] at cx
        have hq := str_same s
        clear hfw HNO
        go_wp2
        go_ret
        rw [HK.out]
        exact ⟨rfl, rfl⟩
      · have hq := str_ne (wordL_bytes (k : Int)) hb hfw
        have HNO2 : Hid (∀ j : Int, 1 ≤ j → j < ((k + 1 : Nat) : Int) → wordL j ≠ s) := fun j h1 h2 => by
          by_cases e : j = (k : Int)
          · rw [e]; exact hfw
          · exact HNO.out j h1 (by omega)
        clear HNO hfw
        obtain ⟨wk, hwk⟩ : ∃ x, wordL (k : Int) = x := ⟨_, rfl⟩
        rw [hwk] at cx hq
        clear hwk
        go_wp2
        go_roundw
        case rel => exact ⟨k + 1, by omega, by omega, by go_num, HNO2, trivial⟩
        case measure => simp [intOf]; omega
    · obtain rfl : k = 10 := by omega
      rw [decide_eq_false (show ¬ ((1 : Int) ≤ ((10 : Nat) : Int) ∧ ((10 : Nat) : Int) ≤ 9) by omega)]
      have HR : Hid (kindW s = 0) := kindW_none HNO.out
      clear HNO hk9
      go_wp2
      go_ret
      rw [HR.out]
      exact ⟨rfl, rfl⟩
def sumB (b0 b1 b2 : Bool) (i : Nat) : Int := (if 0 < i then oneIf b0 else 0) + (if 1 < i then oneIf b1 else 0) + (if 2 < i then oneIf b2 else 0)
def pickB (b0 b1 b2 : Bool) (i : Nat) : Bool := if i = 0 then b0 else if i = 1 then b1 else b2
theorem sumB_succ (b0 b1 b2 : Bool) (i : Nat) (h : i < 3) : sumB b0 b1 b2 (i + 1) = sumB b0 b1 b2 i + oneIf (pickB b0 b1 b2 i) := by
  unfold sumB pickB
  match i, h with
  | 0, _ => simp
  | 1, _ => simp
  | 2, _ => simp
theorem oneIf_le (b : Bool) : 0 ≤ oneIf b ∧ oneIf b ≤ 1 := by cases b <;> simp [oneIf]
theorem sumB_le (b0 b1 b2 : Bool) (i : Nat) : 0 ≤ sumB b0 b1 b2 i ∧ sumB b0 b1 b2 i ≤ 3 := by
  have h0 := oneIf_le b0
  have h1 := oneIf_le b1
  have h2 := oneIf_le b2
  unfold sumB
  split <;> split <;> split <;> omega
set_option maxRecDepth 100000 in
theorem run_pick3 (b0 b1 b2 : Bool) (i : Nat) (h : i < 3) (w : World) : (Instr.index 72 (.agg #[.bool b0, .bool b1, .bool b2]) (.int .i64 (i : Int))).run Tryd.prog w = .ok (.bool (pickB b0 b1 b2 i)) w := by
  have hi : i = 0 ∨ i = 1 ∨ i = 2 := by omega
  rcases hi with rfl | rfl | rfl <;> rfl
theorem bSz3 : (Tryd.prog.info? 72).map (·.size) = some 3 := by kernel_rfl
set_option maxHeartbeats 2000000 in
set_option maxRecDepth 100000 in
theorem piecesOf_any (k : Nat) (h1 : 1 ≤ k) (h9 : k < 10) (w : World) (ht : LWTab w) :
    Calls Tryd.prog 49 #[.int .i64 (k : Int)] w fun e w' => e = .returned (.int .i64 (npc (k : Int))) ∧ w' = w := by
  have ix := runIndexW k h9
  obtain ⟨b0, e0⟩ : ∃ b, useN (k : Int) = b := ⟨_, rfl⟩
  obtain ⟨b1, e1⟩ : ∃ b, useA (k : Int) = b := ⟨_, rfl⟩
  obtain ⟨b2, e2⟩ : ∃ b, useK (k : Int) = b := ⟨_, rfl⟩
  have hr : w.rangeAt 0 (4 * k + 1) [.bool b0, .bool b1, .bool b2] := fun j u hj => by
    have hj3 : j < 3 := (List.getElem?_eq_some_iff.1 hj).1
    have h := ht.has k j h9 hj3
    match j, hj3, hj, h with
    | 0, _, hj, h => simp at hj; subst hj; rw [← e0]; exact h
    | 1, _, hj, h => simp at hj; subst hj; rw [← e1]; exact h
    | 2, _, hj, h => simp at hj; subst hj; rw [← e2]; exact h
  have HN : Hid (npc (k : Int) = 1 + sumB b0 b1 b2 3 + oneIf ((k : Int) == 1)) := by
    unfold Hid npc sumB
    rw [e0, e1, e2]
    simp
    omega
  clear e0 e1 e2
  go_enter Tryd.func49, Tryd.ntmps49
  go_wp2_with ((with_reducible (refine tpLook ?_)); refine wpList_load_mid rfl 72 (.tmp 8) rfl 0 (4 * k + 1) rfl [.bool b0, .bool b1, .bool b2] _ hr Tryd.underlying72 rfl bSz3 ?_)
  go_loopw [3, 10] (fun cv iv wr => ∃ i : Nat, i ≤ 3 ∧ iv = .int .i64 (i : Int) ∧ cv = .int .i64 (1 + sumB b0 b1 b2 i) ∧ wr = w) (fun _ iv _ => (3 - intOf iv).toNat)
  case atStart => exact ⟨0, by omega, rfl, rfl, rfl⟩
  case round =>
    obtain ⟨i, hi3, rfl, rfl, hwr⟩ := hrel
    subst hwr
    obtain ⟨S, hS⟩ : ∃ S, sumB b0 b1 b2 i = S := ⟨_, rfl⟩
    have hSl := sumB_le b0 b1 b2 i
    rw [hS] at hSl
    obtain ⟨s0, s3⟩ := hSl
    by_cases hlt : i < 3
    · have hlI : (i : Int) < 3 := by omega
      have pk := run_pick3 b0 b1 b2 i hlt
      have HS : Hid (sumB b0 b1 b2 (i + 1) = S + oneIf (pickB b0 b1 b2 i)) := by unfold Hid; rw [sumB_succ _ _ _ _ hlt, hS]
      rw [hS]
      clear hS
      obtain ⟨b, hb⟩ : ∃ b, pickB b0 b1 b2 i = b := ⟨_, rfl⟩
      rw [hb] at pk HS
      clear hb
      cases b with
      | true =>
        have HS2 : Hid (1 + sumB b0 b1 b2 (i + 1) = 1 + S + 1) := by unfold Hid; rw [HS.out]; simp [oneIf]; omega
        go_wp2
        go_roundw
        case rel => exact ⟨i + 1, by omega, by go_num, by rw [HS2.out], trivial⟩
        case measure => simp [intOf]; omega
      | false =>
        have HS2 : Hid (1 + sumB b0 b1 b2 (i + 1) = 1 + S) := by unfold Hid; rw [HS.out]; simp [oneIf]
        go_wp2
        go_roundw
        case rel => exact ⟨i + 1, by omega, by go_num, by rw [HS2.out], trivial⟩
        case measure => simp [intOf]; omega
    · obtain rfl : i = 3 := by omega
      rw [hS]
      rw [hS] at HN
      clear hS
      go_wp2_with fail
      refine (lData_any _ _).mono ?_
      rintro e w' ⟨rfl, hw'⟩
      subst hw'
      by_cases hk : (k : Int) = 1
      · rw [eq_beq hk] at HN ⊢
        have HN2 : Hid (npc (k : Int) = 1 + S + 1) := by unfold Hid; rw [HN.out]; simp [oneIf]
        go_wp2
        go_ret
        rw [HN2.out]
        exact ⟨rfl, rfl⟩
      · rw [ne_beq hk] at HN ⊢
        have HN2 : Hid (npc (k : Int) = 1 + S) := by unfold Hid; rw [HN.out]; simp [oneIf]
        go_wp2
        go_ret
        rw [HN2.out]
        exact ⟨rfl, rfl⟩
end Go.Proofs.YtlcbebiocmmbaaaDoor
/-
  Slices of texts. No function of the program is named here.
-/
namespace Go.Proofs.YtlcbebiocmmbaaaDoor
open Go.RowKit
set_option linter.unusedVariables false

theorem infoStr : (Tryd.prog.info? 9).map (fun i => (i.zero, i.size, i.bytes)) = some (some (.string ByteArray.empty), 1, 16) := by kernel_rfl
/-- a slice value reads as these texts -/
structure Ss (w : World) (v : Value) (l : List (List Int)) : Prop where
  ex : ∃ b off cap, v = .slice (some ⟨b, off, none⟩) l.length cap ∧ b < w.heap.size ∧ l.length ≤ cap ∧ ∀ i, i < l.length → w.cell? ⟨b, off + i, none⟩ = some (.string (strOfNums (l.getD i [])))
  len : l.length ≤ 4000000000
theorem Ss.below {w w' : World} {v : Value} {l : List (List Int)} (h : Ss w v l) (hb : Below w.heap.size w w') : Ss w' v l := by
  obtain ⟨⟨b, off, cap, e, h1, h2, h3⟩, h4⟩ := h
  exact ⟨⟨b, off, cap, e, Nat.lt_of_lt_of_le h1 hb.size, h2, fun i hi => (hb.cell (p := ⟨b, off + i, none⟩) h1).trans (h3 i hi)⟩, h4⟩
def strC (l : List (List Int)) : List Value := l.map (fun x => .string (strOfNums x))
theorem strC_length (l : List (List Int)) : (strC l).length = l.length := by simp [strC]
theorem strC_snoc (l : List (List Int)) (x : List Int) : strC (l ++ [x]) = strC l ++ [.string (strOfNums x)] := by simp [strC]
theorem Ss.ofOwns {w : World} {base n : Nat} {v : Value} {l : List (List Int)} (h : w.ownsRow base 9 1 v n (strC l)) (hn : l.length = n) (h0 : l ≠ []) (hl : n ≤ 4000000000) : Ss w v l := by
  subst hn
  have hp : 0 < l.length := List.length_pos_iff.2 h0
  rcases h.2 with ⟨rfl, h1⟩ | ⟨g, cap, cur, rfl, _, hg, hn, _, hcs, ht⟩
  · omega
  · refine ⟨⟨g, 0, cap, rfl, (Array.getElem?_eq_some_iff.1 hg).1, hn, fun i hi => ?_⟩, hl⟩
    have hc := h.cells (g := g) rfl i (.string (strOfNums (l.getD i []))) (by simp [strC, List.getElem?_eq_getElem hi, List.getD])
    have hadd : (⟨g, 0, none⟩ : Addr).add i = ⟨g, 0 + i, none⟩ := by unfold Addr.add; split <;> simp_all
    rw [hadd] at hc
    exact hc
theorem Ss.shape {w : World} {v : Value} {l : List (List Int)} (h : Ss w v l) : ∃ b off cap, v = .slice (some ⟨b, off, none⟩) l.length cap ∧ b < w.heap.size ∧ l.length ≤ cap := by
  obtain ⟨⟨b, off, cap, e, h1, h2, _⟩, _⟩ := h
  exact ⟨b, off, cap, e, h1, h2⟩
theorem Ss.at {w : World} {b off n cap : Nat} {l : List (List Int)} (h : Ss w (.slice (some ⟨b, off, none⟩) n cap) l) (i : Nat) (hi : i < l.length) : w.cell? ⟨b, off + i, none⟩ = some (.string (strOfNums (l.getD i []))) := by
  obtain ⟨⟨b', off', cap', e, h1, h2, h3⟩, h4⟩ := h
  simp only [Value.slice.injEq, Option.some.injEq, Addr.mk.injEq] at e
  obtain ⟨⟨rfl, rfl, _⟩, rfl, rfl⟩ := e
  exact h3 i hi
theorem getD_nil {l : List (List Int)} {i : Nat} (hi : i < l.length) : l.getD i [] = l[i] := by simp [List.getD, List.getElem?_eq_getElem hi]
/-- what is behind the first ones -/
theorem Ss.drop {w : World} {b off n cap : Nat} {l : List (List Int)} (h : Ss w (.slice (some ⟨b, off, none⟩) n cap) l) (k : Nat) (hk : k ≤ l.length) : Ss w (.slice (some ⟨b, off + k, none⟩) (l.length - k) (cap - k)) (l.drop k) := by
  obtain ⟨⟨b', off', cap', e, h1, h2, h3⟩, h4⟩ := h
  simp only [Value.slice.injEq, Option.some.injEq, Addr.mk.injEq] at e
  obtain ⟨⟨rfl, rfl, _⟩, rfl, rfl⟩ := e
  refine ⟨⟨b, off + k, cap - k, by rw [List.length_drop], h1, by rw [List.length_drop]; omega, fun i hi => ?_⟩, by rw [List.length_drop]; omega⟩
  rw [List.length_drop] at hi
  have h5 := h3 (k + i) (by omega)
  rw [Nat.add_assoc, h5, getD_nil (by omega), getD_nil (by rw [List.length_drop]; omega), List.getElem_drop]
/-- the index of a text -/
theorem elemStr : Tryd.prog.elem 42 = 9 := by kernel_rfl
theorem size1s (w : World) : (Go.sizeOf 9).run Tryd.prog w = .ok 1 w := by
  have h : (Tryd.prog.info? 9).map (·.size) = some 1 := by kernel_rfl
  cases hi : Tryd.prog.info? 9 with
  | none => rw [hi] at h; cases h
  | some i =>
    rw [hi] at h
    simp at h
    simp [sizeOf, typeInfo, hi, h]
set_option maxRecDepth 100000 in
theorem runIndexS (b off n cap i : Nat) (hi : i < n) (w : World) : (Instr.indexAt 42 (.slice (some ⟨b, off, none⟩) n cap) (.int .i64 (i : Int))).run Tryd.prog w = .ok (.pointer (some ⟨b, off + i, none⟩)) w := by
  rw [run_indexAt_slice (P := Tryd.prog) w 42 _ n cap .i64 _ Tryd.underlying42, if_pos ⟨by omega, by omega⟩, elemStr, size1s]
  simp [Result.andThen, Addr.add_mid]
theorem runIndexS0 (b off n cap : Nat) (hi : 0 < n) (w : World) : (Instr.indexAt 42 (.slice (some ⟨b, off, none⟩) n cap) (.int .i64 0)).run Tryd.prog w = .ok (.pointer (some ⟨b, off, none⟩)) w := runIndexS b off n cap 0 hi w
theorem runIndexS1 (b off n cap : Nat) (hi : 1 < n) (w : World) : (Instr.indexAt 42 (.slice (some ⟨b, off, none⟩) n cap) (.int .i64 1)).run Tryd.prog w = .ok (.pointer (some ⟨b, off + 1, none⟩)) w := runIndexS b off n cap 1 hi w
theorem runIndexS2 (b off n cap : Nat) (hi : 2 < n) (w : World) : (Instr.indexAt 42 (.slice (some ⟨b, off, none⟩) n cap) (.int .i64 2)).run Tryd.prog w = .ok (.pointer (some ⟨b, off + 2, none⟩)) w := runIndexS b off n cap 2 hi w
end Go.Proofs.YtlcbebiocmmbaaaDoor
