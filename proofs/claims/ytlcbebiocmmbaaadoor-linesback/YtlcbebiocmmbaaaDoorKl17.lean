/-
  The walk of the program's bytes of digits.
-/
import Derived.Test.YtlcbebiocmmbaaaDoorKl16
import Derived.Test.YtlcbebiocmmbaaaDoorKl4
import Derived.Test.YtlcbebiocmmbaaaDoorKl2
namespace Go.Proofs.YtlcbebiocmmbaaaDoor
open Go.RowKit
set_option linter.unusedVariables false

/-- a row that is filled so far -/
def fillR (d : List Int) (n : Nat) : List Value := d.map (Value.int .u8) ++ List.replicate (n - d.length) (.int .u8 0)
theorem fillR_set {d : List Int} {n : Nat} (h : d.length < n) (c : Int) : (fillR d n).set d.length (.int .u8 c) = fillR (d ++ [c]) n := by
  unfold fillR
  obtain ⟨m, hm⟩ : ∃ m, n - d.length = m + 1 := ⟨n - d.length - 1, by omega⟩
  rw [hm, List.replicate_succ, List.set_append_right _ _ (by simp)]
  simp only [List.length_map, Nat.sub_self, List.set_cons_zero, List.map_append, List.map_cons, List.map_nil, List.length_append, List.length_cons, List.length_nil, Nat.zero_add]
  rw [show n - (d.length + 1) = m by omega, List.append_assoc, List.singleton_append]
theorem fillR_full (d : List Int) : fillR d d.length = d.map (Value.int .u8) := by simp [fillR]
theorem fillR_none (n : Nat) : fillR [] n = List.replicate n (.int .u8 0) := by simp [fillR]
theorem elem8 : Tryd.prog.elem 22 = 5 := by kernel_rfl
theorem size18 (w : World) : (Go.sizeOf 5).run Tryd.prog w = .ok 1 w := by
  have h := byte1
  cases hi : Tryd.prog.info? 5 with
  | none => rw [hi] at h; cases h
  | some i =>
    rw [hi] at h
    simp at h
    simp [sizeOf, typeInfo, hi, h]
set_option maxRecDepth 100000 in
theorem runIndex8 (b n c : Nat) (i : Nat) (hi : i < n) (w : World) : (Instr.indexAt 22 (.slice (some ⟨b, 0, none⟩) n c) (.int .i64 (i : Int))).run Tryd.prog w = .ok (.pointer (some ⟨b, i, none⟩)) w := by
  rw [run_indexAt_slice (P := Tryd.prog) w 22 _ n c .i64 _ Tryd.underlying22, if_pos ⟨by omega, by omega⟩, elem8, size18]
  simp [Result.andThen, Addr.add_mid]
theorem bits_or16 {a b : Int} (ha : 0 ≤ a ∧ a < 16) (hb : 0 ≤ b ∧ b < 16) : bits .or .i64 (a * 16) b = 16 * a + b := by
  have key : ∀ n : Nat, n < 16 → ∀ m : Nat, m < 16 → bits .or .i64 ((n : Int) * 16) (m : Int) = 16 * (n : Int) + (m : Int) := by decide +kernel
  have := key a.toNat (by omega) b.toNat (by omega)
  rwa [Int.toNat_of_nonneg ha.1, Int.toNat_of_nonneg hb.1] at this
theorem fillR_at {d : List Int} {n : Nat} (h : d.length < n) : (fillR d n)[d.length]? = some (.int .u8 0) := by
  unfold fillR
  rw [List.getElem?_append_right (by simp), List.length_map, Nat.sub_self, List.getElem?_replicate, if_pos (by omega)]
/-- bytes that were read, or none -/
def BytGot (base : Nat) (s : List Int) (e : Ending) (w' : World) : Prop := (∃ d v, unhx s = some d ∧ d.length ≤ 2000 ∧ e = .returned (.tuple #[v, .bool true]) ∧ w'.ownsRow base 5 1 v d.length (d.map (Value.int .u8))) ∨ ((∀ d, unhx s = some d → 2000 < d.length) ∧ e = .returned (.tuple #[.slice none 0 0, .bool false]))
set_option maxHeartbeats 2000000 in
set_option maxRecDepth 100000 in
theorem bytesOf_any (s : List Int) (hb : ∀ x ∈ s, 0 ≤ x ∧ x < 256) (hl : s.length ≤ 4000000000) (w : World) :
    Calls Tryd.prog 61 #[.string (strOfNums s)] w fun e w' => Below w.heap.size w w' ∧ BytGot w.heap.size s e w' := by
  have hsz := str_size s
  by_cases hev : s.length % 2 = 0
  · have hov : ((s.length : Int) % 2 != 0) = false := eq_bne (by omega)
    by_cases h4 : 4000 < s.length
    · have h4I : (4000 : Int) < (s.length : Int) := by omega
      have HN : Hid (∀ d, unhx s = some d → 2000 < d.length) := fun d hd => by
        have := congrArg List.length (hexL_unhx hd).1
        rw [hexL_length] at this
        omega
      clear hev h4
      go_enter Tryd.func61, Tryd.ntmps61
      go_wp2
      go_ret2
      exact ⟨Below.refl _ _, .inr ⟨HN.out, rfl⟩⟩
    · have h4I : ¬ (4000 : Int) < (s.length : Int) := by omega
      obtain ⟨n, hn⟩ : ∃ n, s.length = 2 * n := ⟨s.length / 2, by omega⟩
      have HL : Hid (s.length = 2 * n) := hn
      have hq : (s.length : Int) / 2 = (n : Int) := by omega
      have hn2 : n ≤ 2000 := by omega
      clear hn hev h4
      go_enter Tryd.func61, Tryd.ntmps61
      obtain ⟨i0, hi, hz0, hz1, hz2⟩ := info_parts info5
      go_wp2_with ((with_reducible (refine tpLook ?_)); refine wpList_make_full w rfl (.tmp 19) (.tmp 19) 22 rfl w.heap.size 5 i0 (.int .u8 0) 1 Tryd.underlying22 hi hz0 hz1 _ _ _ _ n rfl rfl (by first | rfl | exact hq) (by first | rfl | exact hq) (by rw [hz2]; omega) (by unfold maxLen; omega) (Nat.le_refl _) ?_; intro w1 o1 g1)
      have HQ : Hid ((s.length : Int) / 2 = (n : Int)) := hq
      clear hq
      generalize (s.length : Int) / 2 = T1
      generalize (s.length : Int) % 2 = T2
      have d1 : Below w.heap.size w w1 := (Below.refl _ _).grown g1 (Nat.le_refl _) (by simp)
      have o2 : Hid (w1.ownsRow w.heap.size 5 1 (.slice (some ⟨w.heap.size, 0, none⟩) n n) n (fillR [] n)) := by
        unfold Hid
        rw [fillR_none]
        have e := toList_madeCells_one (.int .u8 0) n
        rw [Nat.mul_one] at o1
        simp only [Value.cells] at o1
        rwa [e] at o1
      clear o1 g1 hov h4I i0 hi hz0 hz1 hz2
      go_loopw [23] (fun jv wr => ∃ d : List Int, jv = .int .i64 (d.length : Int) ∧ Hid (d.length ≤ n ∧ hexL d = s.take (2 * d.length) ∧ (∀ c ∈ d, 0 ≤ c ∧ c < 256)) ∧ Hid (wr.ownsRow w.heap.size 5 1 (.slice (some ⟨w.heap.size, 0, none⟩) n n) n (fillR d n)) ∧ Below w.heap.size w wr) (fun jv _ => ((n : Int) - intOf jv).toNat)
      case atStart => exact ⟨[], rfl, ⟨by simp, rfl, by simp⟩, o2, d1⟩
      case round =>
        clear o2 d1 w1
        obtain ⟨d, rfl, HD, HO, dB⟩ := hrel
        have oe := HO.out
        have hdn := HD.out.1
        clear HO
        obtain ⟨j, hj⟩ : ∃ j, d.length = j := ⟨_, rfl⟩
        have HJ : Hid (d.length = j) := hj
        rw [hj] at hdn ⊢
        clear hj
        by_cases hlt : j < n
        · have hlI : (j : Int) < (n : Int) := by omega
          have hs1 : 2 * j < s.length := by have := HL.out; omega
          have hs2 : 2 * j + 1 < s.length := by have := HL.out; omega
          have i1 := run_idx hb (2 * j) hs1
          have i2 := run_idx hb (2 * j + 1) hs2
          rw [show ((2 * j : Nat) : Int) = 2 * (j : Int) by omega] at i1
          rw [show ((2 * j + 1 : Nat) : Int) = 2 * (j : Int) + 1 by omega] at i2
          obtain ⟨c1, hc1⟩ : ∃ c, s.getD (2 * j) 0 = c := ⟨_, rfl⟩
          obtain ⟨c2, hc2⟩ : ∃ c, s.getD (2 * j + 1) 0 = c := ⟨_, rfl⟩
          rw [hc1] at i1
          rw [hc2] at i2
          have hcb1 : 0 ≤ c1 ∧ c1 < 256 := by rw [← hc1]; exact getD_byte hb _
          have hcb2 : 0 ≤ c2 ∧ c2 < 256 := by rw [← hc2]; exact getD_byte hb _
          have HC : Hid (c1 ∈ s ∧ c2 ∈ s ∧ s.getD (2 * j) 0 = c1 ∧ s.getD (2 * j + 1) 0 = c2) := ⟨by rw [← hc1, getD_at hs1]; exact List.getElem_mem hs1, by rw [← hc2, getD_at hs2]; exact List.getElem_mem hs2, hc1, hc2⟩
          have HS2 : Hid (2 * j + 1 < s.length) := hs2
          clear hc1 hc2 hs1 hs2
          go_wp2_with fail
          refine (indexHex_any c1 hcb1 _).mono ?_
          rintro e w' ⟨rfl, hw'⟩
          subst w'
          go_wp2_with fail
          refine (indexHex_any c2 hcb2 _).mono ?_
          rintro e w' ⟨rfl, hw'⟩
          subst w'
          clear i1 i2 hcb1 hcb2
          obtain ⟨u1, hu1⟩ : ∃ c, hxV c1 = c := ⟨_, rfl⟩
          obtain ⟨u2, hu2⟩ : ∃ c, hxV c2 = c := ⟨_, rfl⟩
          rw [hu1, hu2]
          have HU : Hid (hxV c1 = u1 ∧ hxV c2 = u2) := ⟨hu1, hu2⟩
          have hu1b : u1 < 16 := by rw [← hu1]; exact hxV_lt c1
          have hu2b : u2 < 16 := by rw [← hu2]; exact hxV_lt c2
          clear hu1 hu2
          by_cases hn1 : u1 < 0
          · have HN : Hid (∀ d, unhx s = some d → 2000 < d.length) := fun d hd => by rw [unhx_bad HC.out.1 (by rw [HU.out.1]; exact hn1)] at hd; cases hd
            go_wp2
            go_ret2
            exact ⟨dB, .inr ⟨HN.out, rfl⟩⟩
          · by_cases hn2 : u2 < 0
            · have HN : Hid (∀ d, unhx s = some d → 2000 < d.length) := fun d hd => by rw [unhx_bad HC.out.2.1 (by rw [HU.out.2]; exact hn2)] at hd; cases hd
              go_wp2
              go_ret2
              exact ⟨dB, .inr ⟨HN.out, rfl⟩⟩
            · have HS : Hid (hexL (d ++ [16 * u1 + u2]) = s.take (2 * (j + 1))) := by
                have h1 := HD.out.2.1
                rw [HJ.out] at h1
                obtain ⟨_, _, h2, h3⟩ := HC.out
                have h4 := hexL_step h1 HS2.out (by rw [h2, HU.out.1]; omega) (by rw [h3, HU.out.2]; omega)
                rwa [h2, h3, HU.out.1, HU.out.2] at h4
              have hd2 := HD.out.2.2
              have HDB : Hid (∀ c ∈ d ++ [16 * u1 + u2], 0 ≤ c ∧ c < 256) := byApp hd2 (fun c hc => by simp at hc; omega)
              clear hd2 HD HC HU HS2
              have ix := runIndex8 w.heap.size n n j hlt
              have hbit := bits_or16 (a := u1) (b := u2) (by omega) (by omega)
              have hmod : (16 * u1 + u2) % 256 = 16 * u1 + u2 := by omega
              have cj : wr.cell? ⟨w.heap.size, j, none⟩ = some (.int .u8 0) := by
                have h := oe.cells (g := w.heap.size) rfl j (.int .u8 0) (by have := fillR_at (d := d) (n := n) (by rw [HJ.out]; exact hlt); rwa [HJ.out] at this)
                have hadd : (⟨w.heap.size, 0, none⟩ : Addr).add j = ⟨w.heap.size, j, none⟩ := by unfold Addr.add; split <;> simp_all
                rwa [hadd] at h
              have fj := oe.frozenAt j
              obtain ⟨st, sg⟩ := oe.stored j (.int .u8 (16 * u1 + u2))
              have HO2 : Hid ((wr.setCell ⟨w.heap.size, j, none⟩ (.int .u8 (16 * u1 + u2))).ownsRow w.heap.size 5 1 (.slice (some ⟨w.heap.size, 0, none⟩) n n) n (fillR (d ++ [16 * u1 + u2]) n)) := by
                unfold Hid
                rw [← fillR_set (by rw [HJ.out]; exact hlt), HJ.out]
                exact st
              have HD2 : Hid ((d ++ [16 * u1 + u2]).length ≤ n ∧ hexL (d ++ [16 * u1 + u2]) = s.take (2 * (d ++ [16 * u1 + u2]).length) ∧ (∀ c ∈ d ++ [16 * u1 + u2], 0 ≤ c ∧ c < 256)) := by
                have hl9 : (d ++ [16 * u1 + u2]).length = j + 1 := by rw [List.length_append, HJ.out]; rfl
                refine ⟨by rw [hl9]; omega, ?_, HDB.out⟩
                rw [hl9]
                exact HS.out
              have dB2 : Below w.heap.size w (wr.setCell ⟨w.heap.size, j, none⟩ (.int .u8 (16 * u1 + u2))) := dB.setCell (p := ⟨w.heap.size, j, none⟩) (Nat.le_refl _) _
              have HJ2 : Hid ((((d ++ [16 * u1 + u2]).length : Nat) : Int) = (j : Int) + 1) := by unfold Hid; rw [List.length_append, HJ.out]; simp
              clear st sg oe dB
              go_wp2
              go_roundw
              case rel => exact ⟨d ++ [16 * u1 + u2], by rw [HJ2.out], HD2, HO2, dB2⟩
              case measure => simp [intOf]; omega
        · obtain rfl : j = n := by omega
          have hlI : ¬ (j : Int) < (j : Int) := by omega
          have HU : Hid (unhx s = some d) := by
            have h1 := HD.out.2.1
            rw [HJ.out, ← HL.out, List.take_length] at h1
            exact hexL_all h1 HD.out.2.2
          have HO : Hid (wr.ownsRow w.heap.size 5 1 (.slice (some ⟨w.heap.size, 0, none⟩) j j) d.length (d.map (Value.int .u8))) := by
            unfold Hid
            rw [HJ.out, ← fillR_full d, HJ.out]
            exact oe
          have hd9 : d.length ≤ 2000 := by rw [HJ.out]; exact hn2
          have HD9 : Hid (d.length ≤ 2000) := hd9
          clear oe hd9
          go_wp2
          go_ret2
          exact ⟨dB, .inl ⟨d, _, HU.out, HD9.out, rfl, HO.out⟩⟩
  · have hov : ((s.length : Int) % 2 != 0) = true := ne_bne (by omega)
    have HN : Hid (∀ d, unhx s = some d → 2000 < d.length) := fun d hd => by rw [unhx_odd hev] at hd; cases hd
    clear hev
    go_enter Tryd.func61, Tryd.ntmps61
    go_wp2
    go_ret2
    exact ⟨Below.refl _ _, .inr ⟨HN.out, rfl⟩⟩
end Go.Proofs.YtlcbebiocmmbaaaDoor
/-
  The cells of an act.
-/
namespace Go.Proofs.YtlcbebiocmmbaaaDoor
open Go.RowKit

/-- an act's cells -/
def laA (k n a p : Int) (v : Value) : Array Value := #[.int .i64 k, .int .i64 n, .int .i64 a, .int .i64 p, v]
theorem laSize : (Tryd.prog.info? 24).map (·.size) = some 5 := by kernel_rfl
theorem byteSl : (Tryd.prog.info? 22).map (·.size) = some 1 := by kernel_rfl
end Go.Proofs.YtlcbebiocmmbaaaDoor
