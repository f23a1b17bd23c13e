/-
  The walk of the document's own reading of a text.
-/
import Derived.Test.YtlcbebiocmmbaaaDoorLinLineD
import Derived.Test.YtlcbebiocmmbaaaDoorLinRdG
namespace Go.Proofs.YtlcbebiocmmbaaaDoor
open Go.RowKit
set_option linter.unusedVariables false

theorem cand_k {s : List Int} {x : Lac} (h : rdL s = some x) : ¬ x.k = 0 := by
  have := (rdL_iff.1 h).1.1.k
  omega
set_option maxHeartbeats 8000000 in
set_option maxRecDepth 100000 in
theorem actsRead_any (t : List Int) (hb : ∀ x ∈ t, 0 ≤ x ∧ x < 256) (hl : t.length ≤ 140737488351232) (w : World) :
    Calls Tryd.prog 16 #[.string (strOfNums t)] w fun e w' => RdGot t e w' ∧ Below w.heap.size w w' := by
  have hsz := str_size t
  by_cases ht : 4000000 < t.length
  · have HR : Hid (RdA t [] [] 0 1) := .inl ⟨ht, rfl, rfl⟩
    have htI : (4000000 : Int) < (t.length : Int) := by omega
    clear ht
    go_enter Tryd.func16, Tryd.ntmps16
    go_wp2
    go_ret3
    exact ⟨.bad HR.out (by decide), Below.refl _ _⟩
  have htI : ¬ (4000000 : Int) < (t.length : Int) := by omega
  have ht4 : t.length ≤ 4000000 := by omega
  clear ht
  go_enter Tryd.func16, Tryd.ntmps16
  go_wp2_with fail
  go_loopw [5, 6, 7] (fun lv fv iv wr => ∃ (l : List Lac) (Y : Nat → Value) (f i : Nat), fv = .int .i64 (f : Int) ∧ iv = .int .i64 (i : Int) ∧ Hid (RdF t l f ∧ (f ≤ i ∧ i ≤ t.length ∧ 10 ∉ (t.take i).drop f ∨ i = t.length + 1 ∧ f = t.length)) ∧ Hid (wr.ownsRow w.heap.size 24 5 lv l.length (acL (laF l) Y l.length) ∧ Oact wr (laF l) Y l.length) ∧ Below w.heap.size w wr) (fun _ _ iv _ => ((t.length : Int) + 1 - intOf iv).toNat)
  case atStart => exact ⟨[], fun _ => .bool false, 0, 0, rfl, rfl, ⟨RdF.nil t, .inl ⟨by omega, by omega, by simp⟩⟩, ⟨World.ownsRow_nil _ _ _ _, fun i hi => by simp at hi⟩, Below.refl _ _⟩
  case round =>
    obtain ⟨l, Y, f, i, rfl, rfl, HI, HO, dB⟩ := hrel
    obtain ⟨hF, hI⟩ := HI.out
    have oe := HO.out.1
    have su := HO.out.2
    have HF : Hid (RdF t l f) := hF
    have hll : l.length ≤ 100000 := hF.most
    have hfl := hF.le
    clear HI HO hF
    obtain ⟨gv, cv, hev⟩ := tOwns_shape oe
    subst hev
    rcases hI with ⟨hfi, hi1, hno⟩ | ⟨hi1, hf1⟩
    · have hlI : (i : Int) ≤ (t.length : Int) := by omega
      have hsl := dB.size
      by_cases hlt : i < t.length
      · have hltI : (i : Int) < (t.length : Int) := by omega
        have hne : ((i : Int) == (t.length : Int)) = false := ne_beq (by omega)
        have ix := run_idx hb i hlt
        obtain ⟨c, hc⟩ : ∃ c, t.getD i 0 = c := ⟨_, rfl⟩
        rw [hc] at ix
        by_cases h10 : c = 10
        · have hq : (c != 10) = false := eq_bne h10
          have HC : Hid (t.getD i 0 = 10) := hc.trans h10
          have HNO : Hid (10 ∉ (t.take i).drop f) := hno
          clear hc h10 hno
          by_cases hfull : l.length = 100000
          · have HR : Hid (RdA t l (t.drop f) 100000 8) := HF.out.full (by omega) hfull ht4
            have hfq : ((l.length : Int) == 100000) = true := eq_beq (by omega)
            clear hfull su
            go_wp2
            go_ret3
            exact ⟨.bad HR.out (by decide), dB⟩
          · have hfq : ((l.length : Int) == 100000) = false := ne_beq (by omega)
            have hl9 : l.length < 100000 := by omega
            have cu := run_cutS t f i hfi (by omega)
            have hb1 : ∀ x ∈ (t.take i).drop f, 0 ≤ x ∧ x < 256 := fun x hx => hb x (List.mem_of_mem_take (List.mem_of_mem_drop hx))
            have hl1 : ((t.take i).drop f).length ≤ 4000000 := by rw [List.length_drop, List.length_take]; omega
            obtain ⟨s, hs⟩ : ∃ s, (t.take i).drop f = s := ⟨_, rfl⟩
            rw [hs] at cu hb1 hl1
            have HS : Hid ((t.take i).drop f = s) := hs
            clear hs hfull
            go_wp2_with fail
            refine (lineAct_any s hb1 hl1 _).mono ?_
            rintro e w4 ⟨hgot, b4⟩
            have d4 := dB.trans (b4.mono hsl)
            rcases hgot with ⟨hn, rfl⟩ | ⟨x, y, hx, rfl, oy⟩
            · have HR : Hid (RdA t l (t.drop f) l.length 3) := HF.out.stop hfi hlt HC.out HNO.out (by rw [HS.out]; exact hn) hl9 ht4
              clear hn su oe b4 cu
              have d5 : ∀ o, Below w.heap.size w (w4.alloc o) := fun o => d4.alloc d4.size o
              unfold zLa
              go_wp2
              go_ret3
              exact ⟨.bad HR.out (by decide), d5 _⟩
            · obtain ⟨xk, xn, xa, xp, xd⟩ := x
              have hk0 : (xk == 0) = false := ne_beq (cand_k hx)
              have HF2 : Hid (RdF t (l ++ [(⟨xk, xn, xa, xp, xd⟩ : Lac)]) (i + 1)) := HF.out.snoc hfi hlt HC.out (by rw [HS.out]; exact hx) hl9
              have hxv := (rdL_iff.1 hx).1
              have hxd : xd.length ≤ 2000 := hxv.1.d
              have HXB : Hid (∀ c ∈ xd, 0 ≤ c ∧ c < 256) := hxv.2
              simp only at oy ⊢
              obtain ⟨gy, cy, rfl⟩ := tOwns_shape oy
              have o4 := tOwns_keep oe (fun k hk => b4.block k (oe.lt k hk).2)
              have s4 := su.below b4
              have oy0 := tOwns_base oy (Nat.zero_le _)
              clear hxv hx oe su b4 oy cu
              have bal := t_allocB2 w4 (.cells #[.int .i64 xk, .int .i64 xn, .int .i64 xa, .int .i64 xp, .slice gy xd.length cy] 24) (.cells #[.int .i64 xk, .int .i64 xn, .int .i64 xa, .int .i64 xp, .slice gy xd.length cy] 24)
              have rg := t_alloc2_1 w4 (.cells #[.int .i64 xk, .int .i64 xn, .int .i64 xa, .int .i64 xp, .slice gy xd.length cy] 24) (.cells #[.int .i64 xk, .int .i64 xn, .int .i64 xa, .int .i64 xp, .slice gy xd.length cy] 24)
              have o5 := tOwns_keep o4 (fun k hk => bal.block k (o4.lt k hk).2)
              have hzz := d4.size
              go_wp2_with (at_builtin; refine wpList_append_one _ rfl _ _ 28 rfl w.heap.size 24 5 56 zLa Tryd.underlying28 infoLa rfl (by decide) _ l.length (acL (laF l) Y l.length) (w4.heap.size + 1) [.int .i64 xk, .int .i64 xn, .int .i64 xa, .int .i64 xp, .slice gy xd.length cy] rfl rfl o5 rfl (tOne_range (cs := [.int .i64 xk, .int .i64 xn, .int .i64 xa, .int .i64 xp, .slice gy xd.length cy]) rg) (by simp [Value.oneCell']) (by omega) (by omega) (by simp; omega) ?_; intro v9 W9 o9 g9)
              have d9 : Below w.heap.size w W9 := (d4.trans (bal.mono d4.size)).grown g9 (by simp; omega) (fun k hk => (o4.lt k hk).1)
              have s9 := (s4.below bal).grown o5 (by decide) g9
              have oy5 := tOwns_keep oy0 (fun k hk => bal.block k (oy0.lt k hk).2)
              have oy9 := tOwns_grown oy5 g9 (tOwns_two oy5 o5 (by decide))
              have HO2 : Hid (W9.ownsRow w.heap.size 24 5 v9 (l ++ [(⟨xk, xn, xa, xp, xd⟩ : Lac)]).length (acL (laF (l ++ [(⟨xk, xn, xa, xp, xd⟩ : Lac)])) (laY Y l.length (.slice gy xd.length cy)) (l ++ [(⟨xk, xn, xa, xp, xd⟩ : Lac)]).length) ∧ Oact W9 (laF (l ++ [(⟨xk, xn, xa, xp, xd⟩ : Lac)])) (laY Y l.length (.slice gy xd.length cy)) (l ++ [(⟨xk, xn, xa, xp, xd⟩ : Lac)]).length) := by
                unfold Hid
                rw [List.length_append, List.length_singleton]
                refine ⟨?_, s9.snoc ⟨oy9, by simp only; omega, HXB.out⟩⟩
                rw [acL_snoc]
                exact o9
              have HI2 : Hid (RdF t (l ++ [(⟨xk, xn, xa, xp, xd⟩ : Lac)]) (i + 1) ∧ (i + 1 ≤ i + 1 ∧ i + 1 ≤ t.length ∧ 10 ∉ (t.take (i + 1)).drop (i + 1) ∨ i + 1 = t.length + 1 ∧ i + 1 = t.length)) := ⟨HF2.out, .inl ⟨Nat.le_refl _, by omega, by simp⟩⟩
              clear o9 g9 s9 oy5 oy9 o5 bal rg o4 s4 oy0
              go_roundw
              case rel => exact ⟨_, _, i + 1, i + 1, by go_num, by go_num, HI2, HO2, d9⟩
              case measure => simp [intOf]; omega
        · have hq : (c != 10) = true := ne_bne h10
          have hno2 := no_more10 hfi hlt (by rw [hc]; exact h10) hno
          have HI2 : Hid (RdF t l f ∧ (f ≤ i + 1 ∧ i + 1 ≤ t.length ∧ 10 ∉ (t.take (i + 1)).drop f ∨ i + 1 = t.length + 1 ∧ f = t.length)) := ⟨HF.out, .inl ⟨by omega, by omega, hno2⟩⟩
          have HO2 : Hid (wr.ownsRow w.heap.size 24 5 (.slice gv l.length cv) l.length (acL (laF l) Y l.length) ∧ Oact wr (laF l) Y l.length) := ⟨oe, su⟩
          clear hno hno2 hc oe su
          go_wp2
          go_roundw
          case rel => exact ⟨l, Y, f, i + 1, rfl, by go_num, HI2, HO2, dB⟩
          case measure => simp [intOf]; omega
      · obtain rfl : i = t.length := by omega
        have hltI : ¬ (t.length : Int) < (t.length : Int) := by omega
        have hne : ((t.length : Int) == (t.length : Int)) = true := eq_beq rfl
        rw [List.take_length] at hno
        have HNO : Hid (10 ∉ t.drop f) := hno
        clear hno
        by_cases hft : f = t.length
        · have hfq : ((f : Int) == (t.length : Int)) = true := eq_beq (by omega)
          have HI2 : Hid (RdF t l f ∧ (f ≤ t.length + 1 ∧ t.length + 1 ≤ t.length ∧ 10 ∉ (t.take (t.length + 1)).drop f ∨ t.length + 1 = t.length + 1 ∧ f = t.length)) := ⟨HF.out, .inr ⟨rfl, hft⟩⟩
          have HO2 : Hid (wr.ownsRow w.heap.size 24 5 (.slice gv l.length cv) l.length (acL (laF l) Y l.length) ∧ Oact wr (laF l) Y l.length) := ⟨oe, su⟩
          clear oe su hft
          go_wp2
          go_roundw
          case rel => exact ⟨l, Y, f, t.length + 1, rfl, by go_num, HI2, HO2, dB⟩
          case measure => simp [intOf]
        · have hfq : ((f : Int) == (t.length : Int)) = false := ne_beq (by omega)
          have hf9 : f < t.length := by omega
          by_cases hfull : l.length = 100000
          · have HR : Hid (RdA t l (t.drop f) 100000 8) := HF.out.full (by omega) hfull ht4
            have hfz : ((l.length : Int) == 100000) = true := eq_beq (by omega)
            clear hfull su
            go_wp2
            go_ret3
            exact ⟨.bad HR.out (by decide), dB⟩
          · have hfz : ((l.length : Int) == 100000) = false := ne_beq (by omega)
            have HR : Hid (RdA t l (t.drop f) l.length 3) := HF.out.open hf9 HNO.out (by omega) ht4
            have cu := run_cutS t f t.length hfi (by omega)
            have hb1 : ∀ x ∈ (t.take t.length).drop f, 0 ≤ x ∧ x < 256 := fun x hx => hb x (List.mem_of_mem_take (List.mem_of_mem_drop hx))
            have hl1 : ((t.take t.length).drop f).length ≤ 4000000 := by rw [List.length_drop, List.length_take]; omega
            obtain ⟨s, hs⟩ : ∃ s, (t.take t.length).drop f = s := ⟨_, rfl⟩
            rw [hs] at cu hb1 hl1
            clear hs hfull hft su oe
            go_wp2_with fail
            refine (lineAct_any s hb1 hl1 _).mono ?_
            rintro e w4 ⟨hgot, b4⟩
            have d4 := dB.trans (b4.mono hsl)
            have d5 : ∀ o, Below w.heap.size w (w4.alloc o) := fun o => d4.alloc d4.size o
            rcases hgot with ⟨hn, rfl⟩ | ⟨x, y, hx, rfl, oy⟩
            · clear hn b4 cu
              unfold zLa
              go_wp2
              go_ret3
              exact ⟨.bad HR.out (by decide), d5 _⟩
            · obtain ⟨xk, xn, xa, xp, xd⟩ := x
              have hk0 : (xk == 0) = false := ne_beq (cand_k hx)
              simp only at oy ⊢
              obtain ⟨gy, cy, rfl⟩ := tOwns_shape oy
              clear hx oy b4 cu
              go_wp2
              go_ret3
              exact ⟨.bad HR.out (by decide), d5 _⟩
    · subst hi1
      subst hf1
      have hlI : ¬ (t.length : Int) + 1 ≤ (t.length : Int) := by omega
      have HR : Hid (RdA t l [] 0 0) := HF.out.all ht4
      have HSK : Hid (Sk wr (.slice gv l.length cv) (laF l) l.length) := Sk.ofAc oe su (by omega)
      clear oe su
      go_wp2
      go_ret3
      exact ⟨.good HR.out HSK.out, dB⟩
end Go.Proofs.YtlcbebiocmmbaaaDoor
