/-
  The walk of the program's numbers of digits.
-/
import Derived.Test.YtlcbebiocmmbaaaDoorKl14
import Derived.Test.YtlcbebiocmmbaaaDoorKl15
import Derived.Test.YtlcbebiocmmbaaaDoorKl11
import Derived.Test.YtlcbebiocmmbaaaDoorKl10
namespace Go.Proofs.YtlcbebiocmmbaaaDoor
open Go.RowKit
set_option linter.unusedVariables false

/-- a world that has but drawn -/
def Drw (w w' : World) : Prop := ∃ m, w' = w.drewN m
theorem Drw.refl (w : World) : Drw w w := ⟨0, rfl⟩
theorem Drw.more {w w' : World} (h : Drw w w') (n : Nat) : Drw w (w'.drewN n) := by
  obtain ⟨m, rfl⟩ := h
  exact ⟨m + n, World.drewN_drewN w m n⟩
theorem Drw.trans {w w' w'' : World} (h : Drw w w') (k : Drw w' w'') : Drw w w'' := by
  obtain ⟨m, rfl⟩ := k
  exact h.more m
theorem Drw.below {w w' : World} (h : Drw w w') : Below w.heap.size w w' := by
  obtain ⟨m, rfl⟩ := h
  exact below_drewN (Below.refl _ _) m
set_option maxRecDepth 100000 in
theorem cut10d (w : World) : (Instr.slice 9 (.string { data := #[48, 49, 50, 51, 52, 53, 54, 55, 56, 57, 97, 98, 99, 100, 101, 102] }) none (some (.int .i64 10)) none).run Tryd.prog w = .ok (.string (strOfNums dig10)) w := by
  rfl
theorem indexDig_any (c : Int) (hc : 0 ≤ c ∧ c < 256) (w : World) :
    Calls Tryd.prog 45 #[.string (strOfNums dig10), .int .u8 c] w fun e w' => e = .returned (.int .i64 (dgV c)) ∧ w' = w := by
  have h := indexByte_any dig10 (by decide) c hc w
  rwa [idx10 c hc] at h
theorem indexHex_any (c : Int) (hc : 0 ≤ c ∧ c < 256) (w : World) :
    Calls Tryd.prog 45 #[.string { data := #[48, 49, 50, 51, 52, 53, 54, 55, 56, 57, 97, 98, 99, 100, 101, 102] }, .int .u8 c] w fun e w' => e = .returned (.int .i64 (hxV c)) ∧ w' = w := by
  have h := indexByte_any dig16 (by decide) c hc w
  rwa [idx16 c hc] at h
set_option maxHeartbeats 2000000 in
set_option maxRecDepth 100000 in
theorem numberOf_any (s : List Int) (hb : ∀ x ∈ s, 0 ≤ x ∧ x < 256) (hl : s.length ≤ 4000000000) (B : Int) (hB0 : 0 ≤ B) (hB : B < 10000000) (w : World) :
    Calls Tryd.prog 60 #[.string (strOfNums s), .int .i64 B] w fun e w' => Drw w w' ∧ ((NumOk s B ∧ e = .returned (.tuple #[.int .i64 (whV s), .bool true])) ∨ (¬ NumOk s B ∧ e = .returned (.tuple #[.int .i64 0, .bool false]))) := by
  have hsz := str_size s
  have HI : Hid _ := numOk_iff (s := s) (B := B) hB
  by_cases h0 : s = []
  · have HN : Hid (¬ NumOk s B) := fun e => (HI.out.1 e).1 h0
    have he0 := str_eq0 h0
    have he1 := (str_nil s).2 h0
    clear h0 HI
    go_enter Tryd.func60, Tryd.ntmps60
    go_wp2
    go_ret2
    exact ⟨Drw.refl _, .inr ⟨HN.out, rfl⟩⟩
  have he0 := str_ne0 h0
  have he1 : ¬ (strOfNums s).toList = [] := fun e => h0 ((str_nil s).1 e)
  have hp : 0 < s.length := List.length_pos_iff.2 h0
  have ix0 := run_idx0 hb hp
  obtain ⟨c0, hc0⟩ : ∃ c, s.getD 0 0 = c := ⟨_, rfl⟩
  rw [hc0] at ix0
  have hs0 : s[0]? = some c0 := by rw [← hc0, List.getD_eq_getElem?_getD, List.getElem?_eq_getElem hp]; rfl
  by_cases h48 : c0 = 48 ∧ 1 < s.length
  · obtain ⟨rfl, h1⟩ := h48
    have hs48 : ((48 : Int) == 48) = true := rfl
    have HN : Hid (¬ NumOk s B) := fun e => by have := (HI.out.1 e).2.1 hs0; omega
    have hz1 : (1 : Int) < (s.length : Int) := by omega
    clear h0 hs0 hc0 HI
    go_enter Tryd.func60, Tryd.ntmps60
    go_wp2
    go_ret2
    exact ⟨Drw.refl _, .inr ⟨HN.out, rfl⟩⟩
  have HH : Hid (s[0]? = some 48 → s.length = 1) := fun e => by
    rw [hs0] at e
    have : c0 = 48 := by simpa using e
    have := fun h => h48 ⟨this, h⟩
    omega
  have H0 : Hid (s ≠ []) := h0
  have T1 : (((c0 == 48) = true) ∧ ¬ (1 : Int) < (s.length : Int)) ∨ (c0 == 48) = false := by
    by_cases e : c0 = 48
    · exact .inl ⟨by simpa using e, fun h => h48 ⟨e, by omega⟩⟩
    · exact .inr (by simpa using e)
  clear hs0 hc0 h48 h0
  rcases T1 with ⟨hz0, hz1⟩ | hz1
  all_goals
    go_enter Tryd.func60, Tryd.ntmps60
    go_wp2_with fail
    go_loopw [6, 23] (fun nv iv wr => ∃ i : Nat, i ≤ s.length ∧ iv = .int .i64 (i : Int) ∧ nv = .int .i64 (dv (s.take i)) ∧ Hid ((∀ c ∈ s.take i, 48 ≤ c ∧ c ≤ 57) ∧ dv (s.take i) ≤ B) ∧ Drw w wr) (fun _ iv _ => ((s.length : Int) - intOf iv).toNat)
    case atStart => exact ⟨0, by omega, rfl, rfl, ⟨fun c hc => by simp at hc, by simpa [dv] using hB0⟩, Drw.refl _⟩
    case round =>
      obtain ⟨i, hin, rfl, rfl, HD, dB⟩ := hrel
      by_cases hlt : i < s.length
      · have hlI : (i : Int) < (s.length : Int) := by omega
        have ix := run_idx hb i hlt
        have cu := cut10d
        obtain ⟨c, hc⟩ : ∃ c, s.getD i 0 = c := ⟨_, rfl⟩
        rw [hc] at ix
        have hcb : 0 ≤ c ∧ c < 256 := by rw [← hc]; exact getD_byte hb i
        have hcs : c ∈ s := by rw [← hc, getD_at hlt]; exact List.getElem_mem hlt
        have HC : Hid (c ∈ s) := hcs
        have HT : Hid (s.take (i + 1) = s.take i ++ [c]) := by
          unfold Hid
          rw [List.take_add_one, List.getElem?_eq_getElem hlt]
          rw [getD_at hlt] at hc
          rw [hc]; rfl
        have HX : Hid (∀ nd, Calls Tryd.prog 45 #[.string (strOfNums dig10), .int .u8 c] (wr.drewN nd) fun e w' => e = .returned (.int .i64 (dgV c)) ∧ w' = wr.drewN nd) := fun nd => indexDig_any c hcb _
        clear hcs hc ix0 hcb
        obtain ⟨d, hdv⟩ : ∃ d, dv (s.take i) = d := ⟨_, rfl⟩
        have d0 : 0 ≤ d := by rw [← hdv]; exact dv_nonneg HD.out.1
        have d1 : d < 10000000 := by have := HD.out.2; omega
        have HV : Hid (dv (s.take (i + 1)) = 10 * d + (c - 48)) := by unfold Hid; rw [HT.out, dv_snoc, hdv]
        rw [hdv]
        clear hdv
        obtain ⟨u, hu⟩ : ∃ u, dgV c = u := ⟨_, rfl⟩
        have HU : Hid (dgV c = u) := hu
        rw [hu] at HX
        have hub : u < 10 := by
          rw [← hu]; unfold dgV
          split <;> omega
        clear hu
        go_wp2_with fail
        go_quiet ((go_at_call 45; exact Calls.quiet_of_same (HX.out _)))
        have dQ : Drw w (wr.drewN nq) := dB.more nq
        generalize wr.drewN nq = WQ at dQ ⊢
        clear nq HX ix cu
        by_cases hu0 : u < 0
        · have HN : Hid (¬ NumOk s B) := fun e => by
            have h1 := (HI.out.1 e).2.2.1 c HC.out
            have h2 := HU.out
            unfold dgV at h2
            rw [if_pos h1] at h2
            omega
          clear HI
          go_wp2
          go_ret2
          exact ⟨dQ, .inr ⟨HN.out, rfl⟩⟩
        · have hcu : 48 ≤ c ∧ c ≤ 57 ∧ u = c - 48 := by
            have h2 := HU.out
            unfold dgV at h2
            split at h2 <;> omega
          have HD2 : Hid (∀ x ∈ s.take (i + 1), 48 ≤ x ∧ x ≤ 57) := fun x hx => by
            rw [HT.out] at hx
            rcases List.mem_append.1 hx with hx | hx
            · exact HD.out.1 x hx
            · simp at hx
              omega
          have HV2 : Hid (dv (s.take (i + 1)) = 10 * d + u) := by unfold Hid; rw [HV.out, hcu.2.2]
          clear hcu HV
          by_cases hBd : B < 10 * d + u
          · have HN : Hid (¬ NumOk s B) := fun e => by
              obtain ⟨_, _, h1, h2⟩ := HI.out.1 e
              have := dv_take h1 (i + 1)
              rw [HV2.out] at this
              omega
            clear HI
            go_wp2
            go_ret2
            exact ⟨dQ, .inr ⟨HN.out, rfl⟩⟩
          · have HD3 : Hid ((∀ c ∈ s.take (i + 1), 48 ≤ c ∧ c ≤ 57) ∧ dv (s.take (i + 1)) ≤ B) := ⟨HD2.out, by rw [HV2.out]; omega⟩
            clear HI
            go_wp2
            go_roundw
            case rel => exact ⟨i + 1, by omega, by go_num, by rw [HV2.out], HD3, dQ⟩
            case measure => simp [intOf]; omega
      · obtain rfl : i = s.length := by omega
        have hlI : ¬ (s.length : Int) < (s.length : Int) := by omega
        rw [List.take_length] at HD ⊢
        have hok : NumOk s B := HI.out.2 ⟨H0.out, HH.out, HD.out.1, HD.out.2⟩
        have HN : Hid (NumOk s B ∧ whV s = dv s) := ⟨hok, numOk_dv hok⟩
        clear hok HI
        go_wp2
        go_ret2
        rw [HN.out.2]
        exact ⟨dB, .inl ⟨HN.out.1, rfl⟩⟩
theorem numberOf_ok {s : List Int} (hb : ∀ x ∈ s, 0 ≤ x ∧ x < 256) (hl : s.length ≤ 4000000000) {B : Int} (hB0 : 0 ≤ B) (hB : B < 10000000) (h : NumOk s B) (w : World) :
    Calls Tryd.prog 60 #[.string (strOfNums s), .int .i64 B] w fun e w' => e = .returned (.tuple #[.int .i64 (whV s), .bool true]) ∧ ∃ m, w' = w.drewN m := by
  refine (numberOf_any s hb hl B hB0 hB w).mono ?_
  rintro e w' ⟨h1, ⟨_, rfl⟩ | ⟨h2, _⟩⟩
  · exact ⟨rfl, h1⟩
  · exact absurd h h2
theorem numberOf_no {s : List Int} (hb : ∀ x ∈ s, 0 ≤ x ∧ x < 256) (hl : s.length ≤ 4000000000) {B : Int} (hB0 : 0 ≤ B) (hB : B < 10000000) (h : ¬ NumOk s B) (w : World) :
    Calls Tryd.prog 60 #[.string (strOfNums s), .int .i64 B] w fun e w' => e = .returned (.tuple #[.int .i64 0, .bool false]) ∧ ∃ m, w' = w.drewN m := by
  refine (numberOf_any s hb hl B hB0 hB w).mono ?_
  rintro e w' ⟨h1, ⟨h2, _⟩ | ⟨_, rfl⟩⟩
  · exact absurd h2 h
  · exact ⟨rfl, h1⟩
end Go.Proofs.YtlcbebiocmmbaaaDoor
