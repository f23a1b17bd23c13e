/-
  Lists of acts of raw numbers.
-/
import Derived.Test.YtlcbebiocmmbaaaDoorKl33
import Derived.Test.YtlcbebiocmmbaaaDoorKl18
import Derived.Test.YtlcbebiocmmbaaaDoorKl4
namespace Go.Proofs.YtlcbebiocmmbaaaDoor
open Go.RowKit
set_option linter.unusedVariables false

/-- a slice value reads as so many acts' raw numbers -/
structure Sf (w : World) (x : Value) (F : Nat → Fea) (n : Nat) : Prop where
  ex : ∃ a cap, x = .slice a n cap ∧ (n = 0 ∨ ∃ b off, a = some ⟨b, off, none⟩ ∧ b < w.heap.size ∧ ∀ i, i < n → ∃ y, w.rangeAt b (off + 4 * i) (feV (F i) y) ∧ Sl w y (F i).d ∧ FeaI (F i))
  len : n ≤ 140737488351232
theorem Sf.shape {w : World} {x : Value} {F : Nat → Fea} {n : Nat} (h : Sf w x F n) : ∃ a cap, x = .slice a n cap := by
  obtain ⟨⟨a, cap, e, _⟩, _⟩ := h
  exact ⟨a, cap, e⟩
theorem Sf.spot {w : World} {a : Option Addr} {n cap : Nat} {F : Nat → Fea} (h : Sf w (.slice a n cap) F n) (i : Nat) (hi : i < n) : ∃ b off y, a = some ⟨b, off, none⟩ ∧ b < w.heap.size ∧ w.rangeAt b (off + 4 * i) (feV (F i) y) ∧ Sl w y (F i).d ∧ FeaI (F i) := by
  obtain ⟨⟨a', cap', e, h1⟩, _⟩ := h
  simp only [Value.slice.injEq] at e
  obtain ⟨rfl, _, rfl⟩ := e
  rcases h1 with rfl | ⟨b, off, rfl, hb, hcell⟩
  · omega
  · obtain ⟨y, h3, h4, h5⟩ := hcell i hi
    exact ⟨b, off, y, rfl, hb, h3, h4, h5⟩
theorem elemFe : Tryd.prog.elem 37 = 67 := by kernel_rfl
theorem feSize : (Tryd.prog.info? 67).map (·.size) = some 4 := by kernel_rfl
theorem size4f (w : World) : (Go.sizeOf 67).run Tryd.prog w = .ok 4 w := by
  have h := feSize
  cases hi : Tryd.prog.info? 67 with
  | none => rw [hi] at h; cases h
  | some i =>
    rw [hi] at h
    simp at h
    simp [sizeOf, typeInfo, hi, h]
set_option maxRecDepth 100000 in
theorem runIndexFe (b o n c : Nat) (i : Nat) (hi : i < n) (w : World) : (Instr.indexAt 37 (.slice (some ⟨b, o, none⟩) n c) (.int .i64 (i : Int))).run Tryd.prog w = .ok (.pointer (some ⟨b, o + 4 * i, none⟩)) w := by
  rw [run_indexAt_slice (P := Tryd.prog) w 37 _ n c .i64 _ Tryd.underlying37, if_pos ⟨by omega, by omega⟩, elemFe, size4f]
  simp [Result.andThen, Addr.add_mid, Nat.mul_comm]
/-- so many acts -/
def feL (F : Nat → Fea) : Nat → List Lac
  | 0 => []
  | m + 1 => feL F m ++ [feaL (F m)]
theorem feL_length (F : Nat → Fea) (m : Nat) : (feL F m).length = m := by
  induction m with
  | zero => rfl
  | succ m ih => rw [feL, List.length_append, ih]; rfl
theorem feaL_d (x : Fea) : (feaL x).d.length ≤ 90 ∧ ((∀ c ∈ x.d, 0 ≤ c ∧ c < 256) → ∀ c ∈ (feaL x).d, 0 ≤ c ∧ c < 256) := by
  unfold feaL
  simp only
  split
  · exact ⟨by rw [List.length_take]; omega, fun h c hc => h c (List.mem_of_mem_take hc)⟩
  · exact ⟨by simp, fun h c hc => by simp at hc⟩
theorem own_cap {w : World} {base e m n c : Nat} {a : Option Addr} {us : List Value} (h : w.ownsRow base e m (.slice a n c) n us) : n ≤ c := by
  rcases h.2 with ⟨h1, h0⟩ | ⟨q, cap, cur, h1, _, _, hn, _⟩
  · simp only [Value.slice.injEq] at h1
    obtain ⟨rfl, rfl, rfl⟩ := h1
    exact Nat.le_refl _
  · simp only [Value.slice.injEq] at h1
    obtain ⟨rfl, _, rfl⟩ := h1
    exact hn
set_option maxHeartbeats 4000000 in
set_option maxRecDepth 100000 in
theorem feats_cap (x : Value) (F : Nat → Fea) (n : Nat) (M : Nat) (hM : M ≤ 100000) (w : World) (hx : Sf w x F n) :
    Calls Tryd.prog 17 #[x, .int .i64 (M : Int)] w fun e w' => ∃ v, e = .returned v ∧ Sk w' v (laF (feL F (min n M))) (feL F (min n M)).length ∧ (∀ c ∈ feL F (min n M), DatB c) ∧ (∀ a m c, v = .slice a m c → m ≤ c) ∧ Below w.heap.size w w' := by
  obtain ⟨a0, cp, rfl⟩ := hx.shape
  have HX : Hid (Sf w (.slice a0 n cp) F n) := hx
  have hxl := hx.len
  clear hx
  go_enter Tryd.func17, Tryd.ntmps17
  go_wp2_with fail
  go_loopw [5, 6] (fun lv iv wr => ∃ (i : Nat) (Y : Nat → Value), i ≤ n ∧ i ≤ M ∧ iv = .int .i64 (i : Int) ∧ Hid (wr.ownsRow w.heap.size 24 5 lv (feL F i).length (acL (laF (feL F i)) Y (feL F i).length) ∧ Oact wr (laF (feL F i)) Y (feL F i).length) ∧ Hid (∀ c ∈ feL F i, DatB c) ∧ Below w.heap.size w wr) (fun _ iv _ => ((n : Int) - intOf iv).toNat)
  case atStart => exact ⟨0, fun _ => .bool false, by omega, by omega, rfl, ⟨World.ownsRow_nil _ _ _ _, fun i hi => by simp [feL] at hi⟩, fun c hc => by simp [feL] at hc, Below.refl _ _⟩
  case round =>
    obtain ⟨i, Y, hin, hiM, rfl, HO, HB, dB⟩ := hrel
    have hfl := feL_length F i
    have oe := HO.out.1
    have su := HO.out.2
    clear HO
    obtain ⟨l, hl⟩ : ∃ l, feL F i = l := ⟨_, rfl⟩
    have HL : Hid (feL F i = l) := hl
    rw [hl] at oe su hfl HB
    have HFL : Hid (l.length = i) := hfl
    have hl5 : l.length ≤ 100000 := by omega
    clear hl hfl
    obtain ⟨gv, cv, hev⟩ := tOwns_shape oe
    subst hev
    have hsl := dB.size
    by_cases hlt : i < n ∧ i < M
    · have hlI : (i : Int) < (n : Int) := by omega
      have hlM : (i : Int) < (M : Int) := by omega
      have i0 : (0 : Int) ≤ (i : Int) := by omega
      obtain ⟨b0, o0, y, rfl, hb0, hr0, hs0, hfi⟩ := HX.out.spot i hlt.1
      have hr1 := tRange dB hb0 hr0
      have hs1 := hs0.below dB
      have HL2 : Hid (feL F (i + 1) = l ++ [feaL (F i)]) := by unfold Hid; rw [feL, HL.out]
      generalize F i = f at hr1 hs1 hfi HL2
      have hfd := feaL_d f
      have HFB : Hid (DatB (feaL f)) := hfd.2 hs1.byte
      have hfd := hfd.1
      have HA := kAct_any f y wr hs1 hfi.1 hfi.2.1 hfi.2.2
      obtain ⟨fk, fa, fb, fd⟩ := f
      obtain ⟨ya, yc, rfl⟩ := hs1.shapeT
      have ixf := runIndexFe b0 o0 n cp i hlt.1
      simp only [feV] at hr1 HA
      unfold feA at HA
      clear hr0 hb0 hs0 hs1 hfi
      go_wp2_with (refine wpList_load_mid rfl 67 _ rfl b0 (o0 + 4 * i) rfl [.int .i64 fk, .int .i64 fa, .int .i64 fb, .slice ya fd.length yc] _ hr1 Tryd.underlying67 rfl feSize ?_)
      refine HA.mono ?_
      rintro e w4 ⟨v, rfl, oy0, b4⟩
      clear HA
      generalize feaL ⟨fk, fa, fb, fd⟩ = x at HL2 HFB hfd oy0
      obtain ⟨xk, xn, xa, xp, xd⟩ := x
      simp only at oy0 hfd ⊢
      unfold laA
      obtain ⟨gy, cy, rfl⟩ := tOwns_shape oy0
      have d4 := dB.trans (b4.mono hsl)
      have o4 := tOwns_keep oe (fun k hk => b4.block k (oe.lt k hk).2)
      have s4 := su.below b4
      have HXB : Hid (∀ c ∈ xd, 0 ≤ c ∧ c < 256) := HFB.out
      clear oe su b4 ixf hr1
      have bal := t_allocB2 w4 (.cells #[.int .i64 xk, .int .i64 xn, .int .i64 xa, .int .i64 xp, .slice gy xd.length cy] 24) (.cells #[.int .i64 xk, .int .i64 xn, .int .i64 xa, .int .i64 xp, .slice gy xd.length cy] 24)
      have rg := t_alloc2_1 w4 (.cells #[.int .i64 xk, .int .i64 xn, .int .i64 xa, .int .i64 xp, .slice gy xd.length cy] 24) (.cells #[.int .i64 xk, .int .i64 xn, .int .i64 xa, .int .i64 xp, .slice gy xd.length cy] 24)
      have o5 := tOwns_keep o4 (fun k hk => bal.block k (o4.lt k hk).2)
      have hzz := d4.size
      go_wp2_with (at_builtin; refine wpList_append_one _ rfl _ _ 28 rfl w.heap.size 24 5 56 zLa Tryd.underlying28 infoLa rfl (by decide) _ l.length (acL (laF l) Y l.length) (w4.heap.size + 1) [.int .i64 xk, .int .i64 xn, .int .i64 xa, .int .i64 xp, .slice gy xd.length cy] rfl rfl o5 rfl (tOne_range (cs := [.int .i64 xk, .int .i64 xn, .int .i64 xa, .int .i64 xp, .slice gy xd.length cy]) rg) (by simp [Value.oneCell']) (by omega) (by omega) (by simp; omega) ?_; intro v9 W9 o9 g9)
      have d9 : Below w.heap.size w W9 := (d4.trans (bal.mono d4.size)).grown g9 (by simp; omega) (fun k hk => (o4.lt k hk).1)
      have s9 := (s4.below bal).grown o5 (by decide) g9
      have oy5 := tOwns_keep oy0 (fun k hk => bal.block k (oy0.lt k hk).2)
      have oy9 := tOwns_grown oy5 g9 (tOwns_two oy5 o5 (by decide))
      have HO2 : Hid (W9.ownsRow w.heap.size 24 5 v9 (feL F (i + 1)).length (acL (laF (feL F (i + 1))) (laY Y l.length (.slice gy xd.length cy)) (feL F (i + 1)).length) ∧ Oact W9 (laF (feL F (i + 1))) (laY Y l.length (.slice gy xd.length cy)) (feL F (i + 1)).length) := by
        unfold Hid
        rw [HL2.out, List.length_append, List.length_singleton]
        refine ⟨?_, s9.snoc ⟨oy9, by simp only; omega, HXB.out⟩⟩
        rw [acL_snoc]
        exact o9
      have HB2 : Hid (∀ c ∈ feL F (i + 1), DatB c) := fun c hc => by
        rw [HL2.out, List.mem_append] at hc
        rcases hc with hc | hc
        · exact HB.out c hc
        · simp at hc; rw [hc]; exact HFB.out
      clear o4 s4 oy0 oy5 oy9 s9 o5 o9 rg g9 bal
      go_wp2
      go_roundw
      case rel => exact ⟨i + 1, _, by omega, by omega, by go_num, HO2, HB2, d9⟩
      case measure => simp [intOf]; omega
    · have hmn : i = min n M := by omega
      have HV : Hid (Sk wr (.slice gv l.length cv) (laF (feL F (min n M))) (feL F (min n M)).length ∧ (∀ c ∈ feL F (min n M), DatB c) ∧ (∀ a m c, Value.slice gv l.length cv = .slice a m c → m ≤ c)) := by
        unfold Hid
        rw [← hmn, HL.out]
        exact ⟨Sk.ofAc oe su (by omega), HB.out, fun a m c e => by simp only [Value.slice.injEq] at e; obtain ⟨_, rfl, rfl⟩ := e; exact own_cap oe⟩
      have hc : ¬ ((i : Int) < (n : Int) ∧ (i : Int) < (M : Int)) := by omega
      clear oe su hmn hlt
      by_cases hq : (i : Int) < (n : Int)
      · have hq2 : ¬ (i : Int) < (M : Int) := by omega
        clear hc
        go_wp2
        go_ret
        exact ⟨_, rfl, HV.out.1, HV.out.2.1, HV.out.2.2, dB⟩
      · clear hc
        go_wp2
        go_ret
        exact ⟨_, rfl, HV.out.1, HV.out.2.1, HV.out.2.2, dB⟩
theorem feats_any (x : Value) (F : Nat → Fea) (n : Nat) (M : Nat) (hM : M ≤ 100000) (w : World) (hx : Sf w x F n) :
    Calls Tryd.prog 17 #[x, .int .i64 (M : Int)] w fun e w' => ∃ v, e = .returned v ∧ Sk w' v (laF (feL F (min n M))) (feL F (min n M)).length ∧ (∀ c ∈ feL F (min n M), DatB c) ∧ Below w.heap.size w w' :=
  (feats_cap x F n M hM w hx).mono fun e w' ⟨v, h1, h2, h3, _, h5⟩ => ⟨v, h1, h2, h3, h5⟩
end Go.Proofs.YtlcbebiocmmbaaaDoor
/-
  The walk of the keeping statements' comparison.
-/
namespace Go.Proofs.YtlcbebiocmmbaaaDoor
open Go.RowKit

theorem keep_same (va vb : Value) (la lb : List Int) (w : World) (ha : Sl w va la) (hb : Sl w vb lb) :
    Calls Tryd.prog 18 #[va, vb] w fun e w' => e = .returned (.bool (decide (la = lb))) ∧ w' = w := by
  have c1 := run_convert_sl (P := Tryd.prog) w 22 9 5 Tryd.underlying22 Tryd.underlying5 Tryd.underlying9 va la ha
  have c2 := run_convert_sl (P := Tryd.prog) w 22 9 5 Tryd.underlying22 Tryd.underlying5 Tryd.underlying9 vb lb hb
  have e := strOfNums_inj ha.byte hb.byte
  have H : Hid (strOfNums la = strOfNums lb ↔ la = lb) := e
  clear e
  go_enter Tryd.func18, Tryd.ntmps18
  go_wp2
  go_ret
  refine ⟨ret_bool ?_, rfl⟩
  have h := H.out
  rw [Bool.eq_iff_iff, decide_eq_true_iff, ← h, beq_iff_eq]
  exact ⟨fun e => ByteArray.ext (Array.ext' (by rw [← ba_toList, ← ba_toList, e])), fun e => by rw [e]⟩
end Go.Proofs.YtlcbebiocmmbaaaDoor
