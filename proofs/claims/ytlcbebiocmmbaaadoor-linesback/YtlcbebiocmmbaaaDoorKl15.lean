/-
  The walk of the document's numbers of digits.
-/
import Derived.Test.YtlcbebiocmmbaaaDoorKl8
namespace Go.Proofs.YtlcbebiocmmbaaaDoor
open Go.RowKit
set_option linter.unusedVariables false

theorem whV_no {s : List Int} (h : ¬ (s ≠ [] ∧ s.length ≤ 7 ∧ (s[0]? = some 48 → s.length = 1) ∧ ∀ c ∈ s, 48 ≤ c ∧ c ≤ 57)) : whV s = -1 := if_neg h
theorem dv_le {s : List Int} (h : ∀ c ∈ s, 48 ≤ c ∧ c ≤ 57) (k : Nat) (hk : s.length ≤ k) : dv s < 10 ^ k := by
  revert h k
  refine snocInd (M := fun s => (∀ c ∈ s, 48 ≤ c ∧ c ≤ 57) → ∀ k, s.length ≤ k → dv s < 10 ^ k) (fun _ k _ => ?_) (fun s c ih h k hk => ?_) s
  · have : (0 : Int) < 10 ^ k := Int.pow_pos (by omega)
    simpa [dv] using this
  · rw [List.length_append, List.length_singleton] at hk
    obtain ⟨j, rfl⟩ : ∃ j, k = j + 1 := ⟨k - 1, by omega⟩
    have h1 := ih (fun x hx => h x (by simp [hx])) j (by omega)
    have h2 := h c (by simp)
    rw [dv_snoc, Int.pow_succ]
    omega
set_option maxHeartbeats 2000000 in
set_option maxRecDepth 100000 in
theorem whole_any (s : List Int) (hb : ∀ x ∈ s, 0 ≤ x ∧ x < 256) (hl : s.length ≤ 4000000000) (w : World) :
    Calls Tryd.prog 52 #[.string (strOfNums s)] w fun e w' => e = .returned (.int .i64 (whV s)) ∧ w' = w := by
  have hsz := str_size s
  by_cases h0 : s = []
  · have HE : Hid (whV s = -1) := whV_no (fun e => e.1 h0)
    have hz : (s.length : Int) = 0 := by rw [h0]; rfl
    clear h0
    go_enter Tryd.func52, Tryd.ntmps52
    go_wp2
    go_ret
    rw [HE.out]
    exact ⟨rfl, rfl⟩
  have hp : 0 < s.length := List.length_pos_iff.2 h0
  have ix0 := run_idx0 hb hp
  by_cases h7 : 7 < s.length
  · have HE : Hid (whV s = -1) := whV_no (fun e => by have := e.2.1; omega)
    have hz : ((s.length : Int) == 0) = false := by simpa using (by omega : ¬ s.length = 0)
    have hz7 : (7 : Int) < (s.length : Int) := by omega
    clear h0 ix0
    go_enter Tryd.func52, Tryd.ntmps52
    go_wp2
    go_ret
    rw [HE.out]
    exact ⟨rfl, rfl⟩
  have hz : ((s.length : Int) == 0) = false := by simpa using (by omega : ¬ s.length = 0)
  have hz7 : ¬ (7 : Int) < (s.length : Int) := by omega
  obtain ⟨c0, hc0⟩ : ∃ c, s.getD 0 0 = c := ⟨_, rfl⟩
  rw [hc0] at ix0
  have hs0 : s[0]? = some c0 := by rw [← hc0, List.getD_eq_getElem?_getD, List.getElem?_eq_getElem hp]; rfl
  by_cases h48 : c0 = 48 ∧ 1 < s.length
  · obtain ⟨rfl, h1⟩ := h48
    have hs48 : ((48 : Int) == 48) = true := rfl
    have HE : Hid (whV s = -1) := whV_no (fun e => by have := e.2.2.1 hs0; omega)
    have hz1 : (1 : Int) < (s.length : Int) := by omega
    clear h0 hs0 hc0
    go_enter Tryd.func52, Tryd.ntmps52
    go_wp2
    go_ret
    rw [HE.out]
    exact ⟨rfl, rfl⟩
  have HH : Hid (s[0]? = some 48 → s.length = 1) := fun e => by
    rw [hs0] at e
    have : c0 = 48 := by simpa using e
    have := fun h => h48 ⟨this, h⟩
    omega
  have H0 : Hid (s ≠ []) := h0
  have T1 : (((c0 == 48) = true) ∧ ¬ (1 : Int) < (s.length : Int)) ∨ (c0 == 48) = false := by
    by_cases e : c0 = 48
    · exact .inl ⟨by simpa using e, fun h => h48 ⟨e, by omega⟩⟩
    · exact .inr (by simpa using e)
  clear hs0 hc0 h48 h0
  rcases T1 with ⟨hz0, hz1⟩ | hz1
  all_goals
    go_enter Tryd.func52, Tryd.ntmps52
    go_wp2_with fail
    go_loopw [3, 4] (fun nv iv wr => ∃ i : Nat, i ≤ s.length ∧ iv = .int .i64 (i : Int) ∧ nv = .int .i64 (dv (s.take i)) ∧ Hid (∀ c ∈ s.take i, 48 ≤ c ∧ c ≤ 57) ∧ wr = w) (fun _ iv _ => ((s.length : Int) - intOf iv).toNat)
    case atStart => exact ⟨0, by omega, rfl, rfl, fun c hc => by simp at hc, rfl⟩
    case round =>
      obtain ⟨i, hin, rfl, rfl, HD, hwr⟩ := hrel
      subst hwr
      by_cases hlt : i < s.length
      · have hlI : (i : Int) < (s.length : Int) := by omega
        have ix := run_idx hb i hlt
        obtain ⟨c, hc⟩ : ∃ c, s.getD i 0 = c := ⟨_, rfl⟩
        rw [hc] at ix
        have hcb : 0 ≤ c ∧ c < 256 := by rw [← hc]; exact getD_byte hb i
        have HT : Hid (s.take (i + 1) = s.take i ++ [c]) := by
          unfold Hid
          rw [List.take_add_one, List.getElem?_eq_getElem hlt]
          rw [getD_at hlt] at hc
          rw [hc]; rfl
        obtain ⟨hc1, hc2⟩ := hcb
        by_cases hd : 48 ≤ c ∧ c ≤ 57
        · obtain ⟨d, hdv⟩ : ∃ d, dv (s.take i) = d := ⟨_, rfl⟩
          have d0 : 0 ≤ d := by rw [← hdv]; exact dv_nonneg HD.out
          have d1 : d < 10000000 := by rw [← hdv]; exact dv_le HD.out 7 (by rw [List.length_take]; omega)
          have HV : Hid (dv (s.take (i + 1)) = 10 * d + (c - 48)) := by unfold Hid; rw [HT.out, dv_snoc, hdv]
          rw [hdv]
          have HD2 : Hid (∀ x ∈ s.take (i + 1), 48 ≤ x ∧ x ≤ 57) := fun x hx => by
            rw [HT.out] at hx
            rcases List.mem_append.1 hx with hx | hx
            · exact HD.out x hx
            · simp at hx
              omega
          obtain ⟨hd1, hd2⟩ := hd
          have hd3 : ¬ c < 48 := by omega
          have hd4 : ¬ 57 < c := by omega
          clear hdv hc ix0
          go_wp2
          go_roundw
          case rel => exact ⟨i + 1, by omega, by go_num, by rw [HV.out], HD2, trivial⟩
          case measure => simp [intOf]; omega
        · have HE : Hid (whV s = -1) := whV_no (fun e => hd (e.2.2.2 c (by rw [← hc, getD_at hlt]; exact List.getElem_mem hlt)))
          clear hc ix0
          by_cases hd1 : c < 48
          · clear hd
            go_wp2
            go_ret
            rw [HE.out]
            exact ⟨rfl, rfl⟩
          · have hd2 : 57 < c := by omega
            clear hd
            go_wp2
            go_ret
            rw [HE.out]
            exact ⟨rfl, rfl⟩
      · obtain rfl : i = s.length := by omega
        have hlI : ¬ (s.length : Int) < (s.length : Int) := by omega
        rw [List.take_length] at HD ⊢
        have HE : Hid (whV s = dv s) := if_pos ⟨H0.out, by omega, HH.out, HD.out⟩
        go_wp2
        go_ret
        rw [HE.out]
        exact ⟨rfl, rfl⟩
end Go.Proofs.YtlcbebiocmmbaaaDoor
