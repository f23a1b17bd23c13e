/-
  The walk of the document's words of a line.
-/
import Derived.Test.YtlcbebiocmmbaaaDoorKl12
namespace Go.Proofs.YtlcbebiocmmbaaaDoor
open Go.RowKit
set_option linter.unusedVariables false

/-- what is cut behind what was cut -/
theorem split_at {s : List Int} {f i : Nat} (hfi : f ≤ i) (hi : i < s.length) (h32 : s.getD i 0 = 32) (hno : 32 ∉ (s.take i).drop f) : splitB (s.drop f) = (s.take i).drop f :: splitB (s.drop (i + 1)) := by
  have e : s.drop f = (s.take i).drop f ++ 32 :: s.drop (i + 1) := by
    have e1 : s.drop f = (s.take i).drop f ++ s.drop i := by
      conv => lhs; rw [← List.take_append_drop i s]
      rw [List.drop_append_of_le_length (by rw [List.length_take]; omega)]
    rw [e1, List.drop_eq_getElem_cons hi]
    rw [getD_at hi] at h32
    rw [h32]
  rw [e, splitB_cons hno]
theorem no_more {s : List Int} {f i : Nat} (hfi : f ≤ i) (hi : i < s.length) (h32 : s.getD i 0 ≠ 32) (hno : 32 ∉ (s.take i).drop f) : 32 ∉ (s.take (i + 1)).drop f := by
  rw [List.take_add_one, List.getElem?_eq_getElem hi, Option.toList_some, List.drop_append_of_le_length (by rw [List.length_take]; omega)]
  rw [getD_at hi] at h32
  simp only [List.mem_append, List.mem_singleton, not_or]
  exact ⟨hno, fun e => h32 e.symm⟩
theorem splitB_len (s : List Int) : (splitB s).length ≤ s.length + 1 := by
  induction s with
  | nil => simp [splitB]
  | cons c r ih =>
    rw [splitB]
    split
    · simp; omega
    · obtain ⟨y, t, e⟩ := List.exists_cons_of_ne_nil (splitB_ne r)
      rw [e] at ih ⊢
      simp at ih ⊢
      omega
set_option maxHeartbeats 2000000 in
set_option maxRecDepth 100000 in
theorem wordsOf_any (s : List Int) (hb : ∀ x ∈ s, 0 ≤ x ∧ x < 256) (hl : s.length ≤ 4000000) (w : World) :
    Calls Tryd.prog 51 #[.string (strOfNums s)] w fun e w' => ∃ v, e = .returned v ∧ Ss w' v (splitB s) ∧ Below w.heap.size w w' := by
  have hsz := str_size s
  go_enter Tryd.func51, Tryd.ntmps51
  go_wp2_with fail
  go_loopw [3, 4, 5] (fun ov fv iv wr => ∃ (ws : List (List Int)) (f i : Nat), fv = .int .i64 (f : Int) ∧ iv = .int .i64 (i : Int) ∧ Hid (f ≤ i ∧ (i ≤ s.length ∧ f ≤ s.length ∧ splitB s = ws ++ splitB (s.drop f) ∧ 32 ∉ (s.take i).drop f ∧ ws.length ≤ f ∨ i = s.length + 1 ∧ splitB s = ws)) ∧ Hid (wr.ownsRow w.heap.size 9 1 ov ws.length (strC ws)) ∧ Below w.heap.size w wr) (fun _ _ iv _ => ((s.length : Int) + 1 - intOf iv).toNat)
  case atStart => exact ⟨[], 0, 0, rfl, rfl, ⟨by omega, .inl ⟨by omega, by omega, rfl, by simp, by simp⟩⟩, World.ownsRow_nil _ _ _ _, Below.refl _ _⟩
  case round =>
    obtain ⟨ws, f, i, rfl, rfl, HI, HO, hB⟩ := hrel
    obtain ⟨hfi, hI⟩ := HI.out
    have oe := HO.out
    clear HI HO
    obtain ⟨gv, cv, hev⟩ := tOwns_shape oe
    subst hev
    rcases hI with ⟨hi1, hf1, hsp, hno, hwl⟩ | ⟨hi1, hsp⟩
    · have hlI : (i : Int) ≤ (s.length : Int) := by omega
      have HS : Hid (splitB s = ws ++ splitB (s.drop f)) := hsp
      clear hsp
      have hsl := hB.size
      by_cases hlt : i < s.length
      · have hne : ((i : Int) == (s.length : Int)) = false := ne_beq (by omega)
        have ix := run_idx hb i hlt
        obtain ⟨c, hc⟩ : ∃ c, s.getD i 0 = c := ⟨_, rfl⟩
        rw [hc] at ix
        by_cases h32 : c = 32
        · have hq : (c == 32) = true := eq_beq h32
          have HS2 : Hid (splitB s = (ws ++ [(s.take i).drop f]) ++ splitB (s.drop (i + 1))) := by
            unfold Hid
            rw [HS.out, split_at hfi hlt (hc.trans h32) hno]
            simp
          clear HS
          have cu := run_cutS s f i hfi (by omega)
          obtain ⟨x, hx⟩ : ∃ x, (s.take i).drop f = x := ⟨_, rfl⟩
          rw [hx] at cu HS2
          clear hx hno hc
          go_wp2_with (at_builtin; refine wpList_append_one _ rfl _ _ 42 rfl w.heap.size 9 1 16 (.string ByteArray.empty) Tryd.underlying42 infoStr rfl (by decide) _ ws.length (strC ws) wr.heap.size [.string (strOfNums x)] rfl rfl (oe.alloc _) rfl (tOne_range (heap_alloc_new _ _)) (by simp [Value.oneCell']) (by omega) (by omega) (by simp; omega) ?_; intro v9 W9 o9 g9)
          have hB9 : Below w.heap.size w W9 := (hB.alloc hsl _).grown g9 (by simp; omega) (fun k hk => (oe.lt k hk).1)
          have HO9 : Hid (W9.ownsRow w.heap.size 9 1 v9 (ws ++ [x]).length (strC (ws ++ [x]))) := by unfold Hid; rw [strC_snoc]; simpa using o9
          go_roundw
          case rel => exact ⟨ws ++ [x], i + 1, i + 1, by go_num, by go_num, ⟨by omega, .inl ⟨by omega, by omega, HS2.out, by simp, by simp; omega⟩⟩, HO9, hB9⟩
          case measure => simp [intOf]; omega
        · have hq : (c == 32) = false := ne_beq h32
          have hno2 := no_more hfi hlt (by rw [hc]; exact h32) hno
          have HN : Hid (32 ∉ (s.take (i + 1)).drop f) := hno2
          clear hno hno2 hc
          go_wp2
          go_roundw
          case rel => exact ⟨ws, f, i + 1, rfl, by go_num, ⟨by omega, .inl ⟨by omega, by omega, HS.out, HN.out, hwl⟩⟩, oe, hB⟩
          case measure => simp [intOf]; omega
      · obtain rfl : i = s.length := by omega
        have hne : ((s.length : Int) == (s.length : Int)) = true := eq_beq rfl
        have HS2 : Hid (splitB s = ws ++ [(s.take s.length).drop f]) := by
          unfold Hid
          rw [HS.out]
          rw [List.take_length] at hno ⊢
          rw [splitB_word hno]
        clear HS
        have cu := run_cutS s f s.length hfi (by omega)
        obtain ⟨x, hx⟩ : ∃ x, (s.take s.length).drop f = x := ⟨_, rfl⟩
        rw [hx] at cu HS2
        clear hx hno
        go_wp2_with (at_builtin; refine wpList_append_one _ rfl _ _ 42 rfl w.heap.size 9 1 16 (.string ByteArray.empty) Tryd.underlying42 infoStr rfl (by decide) _ ws.length (strC ws) wr.heap.size [.string (strOfNums x)] rfl rfl (oe.alloc _) rfl (tOne_range (heap_alloc_new _ _)) (by simp [Value.oneCell']) (by omega) (by omega) (by simp; omega) ?_; intro v9 W9 o9 g9)
        have hB9 : Below w.heap.size w W9 := (hB.alloc hsl _).grown g9 (by simp; omega) (fun k hk => (oe.lt k hk).1)
        have HO9 : Hid (W9.ownsRow w.heap.size 9 1 v9 (ws ++ [x]).length (strC (ws ++ [x]))) := by unfold Hid; rw [strC_snoc]; simpa using o9
        go_roundw
        case rel => exact ⟨ws ++ [x], s.length + 1, s.length + 1, by go_num, by go_num, ⟨by omega, .inr ⟨rfl, HS2.out⟩⟩, HO9, hB9⟩
        case measure => simp [intOf]
    · subst hi1
      have hlI : ¬ (s.length : Int) + 1 ≤ (s.length : Int) := by omega
      have HR : Hid (Ss wr (.slice gv ws.length cv) (splitB s)) := by
        have h1 := splitB_len s
        rw [hsp] at h1 ⊢
        exact Ss.ofOwns oe rfl (by rw [← hsp]; exact splitB_ne s) (by omega)
      clear hsp
      go_wp2
      go_ret
      exact ⟨_, rfl, HR.out, hB⟩
end Go.Proofs.YtlcbebiocmmbaaaDoor
