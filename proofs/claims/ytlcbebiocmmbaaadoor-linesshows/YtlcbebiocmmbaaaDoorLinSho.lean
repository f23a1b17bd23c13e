/-
  The walk of the document's acts as lines.
-/
import Derived.Test.YtlcbebiocmmbaaaDoorLinLin
import Derived.Test.YtlcbebiocmmbaaaDoorLinFault
import Derived.Test.YtlcbebiocmmbaaaDoorLinShwA
namespace Go.Proofs.YtlcbebiocmmbaaaDoor
open Go.RowKit
set_option linter.unusedVariables false

theorem DatB.take {l : List Lac} (hb : ∀ x ∈ l, DatB x) (i : Nat) : ∀ c ∈ flatA (l.take i), 0 ≤ c ∧ c < 256 := flatA_bytes (fun x hx => hb x (List.mem_of_mem_take hx))
set_option maxHeartbeats 4000000 in
set_option maxRecDepth 100000 in
theorem actsShown_any (v : Value) (l : List Lac) (w : World) (hs : Sk w v (laF l) l.length) (hb : ∀ x ∈ l, DatB x) :
    Calls Tryd.prog 13 #[v] w fun e w' => ∃ (t : List Int) (q E : Int), e = .returned (.tuple #[.string (strOfNums t), .int .i64 q, .int .i64 E]) ∧ ShwA l t q E ∧ Below w.heap.size w w' := by
  obtain ⟨a0, cp, rfl⟩ := hs.shape
  have hlen := hs.len
  by_cases hl : l.length ≤ 100000
  · have hl2 : ¬ (100000 : Int) < (l.length : Int) := by omega
    have HB : Hid (∀ i, ∀ c ∈ flatA (l.take i), 0 ≤ c ∧ c < 256) := fun i => DatB.take hb i
    have HSK : Hid (Sk w (.slice a0 l.length cp) (laF l) l.length) := hs
    clear hs hb
    go_enter Tryd.func13, Tryd.ntmps13
    go_wp2_with fail
    go_loopw [5, 6] (fun bv iv wr => ∃ i : Nat, i ≤ l.length ∧ iv = .int .i64 (i : Int) ∧ Hid (wr.ownsRow w.heap.size 5 1 bv (flatA (l.take i)).length ((flatA (l.take i)).map (Value.int .u8)) ∧ Below w.heap.size w wr) ∧ Hid (∀ j, j < i → LacOk (laF l j))) (fun _ iv _ => ((l.length : Int) - intOf iv).toNat)
    case atStart => exact ⟨0, by omega, rfl, ⟨World.ownsRow_nil _ _ _ _, Below.refl _ _⟩, fun j hj => by omega⟩
    case round =>
      obtain ⟨i, hin, rfl, HO, HV⟩ := hrel
      have hfl : (flatA (l.take i)).length ≤ 4101 * (l.take i).length := flatA_len2 (fun x hx => by
        obtain ⟨j, hj, rfl⟩ := List.mem_iff_getElem.1 hx
        rw [List.length_take] at hj
        have h5 := HV.out j (by omega)
        rw [laF_at (by omega)] at h5
        rw [List.getElem_take]
        exact h5)
      rw [List.length_take] at hfl
      by_cases hlt : i < l.length
      · have hlI : (i : Int) < (l.length : Int) := by omega
        have i0 : (0 : Int) ≤ (i : Int) := by omega
        obtain ⟨b0, o0, xa, xm, xp, rfl, hb0, hr0, hs0⟩ := HSK.out.spot i hlt
        have HBD : Hid (lacE (laF l i) ≠ 0 → HndA l (i : Int) (lacE (laF l i))) := fun e => .inl ⟨i, hlt, HV.out, e, rfl, rfl⟩
        have HV2 : Hid (LacOk (laF l i) → ∀ j, j < i + 1 → LacOk (laF l j)) := fun h j hj => by
          by_cases e : j = i
          · rw [e]; exact h
          · exact HV.out j (by omega)
        have HT : Hid (flatA (l.take (i + 1)) = flatA (l.take i) ++ lineL (laF l i) ++ [10]) := by unfold Hid; rw [flatA_take hlt, List.append_assoc]
        have hr1 := tRange HO.out.2 hb0 hr0
        generalize laF l i = x at HBD HV2 HT hr0 hr1 hs0
        obtain ⟨k, n, a, p, d⟩ := x
        simp only at hs0
        obtain ⟨_, _, e⟩ := hs0.shapeT
        simp only [Value.slice.injEq] at e
        obtain ⟨rfl, rfl, rfl⟩ := e
        have ixl := runIndexL b0 o0 l.length cp i hlt
        simp only [laV] at hr0 hr1
        have HSL : Hid (Sl w (.slice xa d.length xp) d) := hs0
        obtain ⟨pre, hpre⟩ : ∃ L, flatA (l.take i) = L := ⟨_, rfl⟩
        rw [hpre] at HO hfl HT
        obtain ⟨gv, cv, hev⟩ := tOwns_shape HO.out.1
        subst hev
        clear hpre hs0 HV
        go_wp2_with (refine wpList_load_mid rfl 24 _ rfl b0 (o0 + 5 * i) rfl [.int .i64 k, .int .i64 n, .int .i64 a, .int .i64 p, .slice xa d.length xp] _ hr1 Tryd.underlying24 rfl laSize ?_)
        refine (actFault_any k n a p _ d wr (HSL.out.below HO.out.2)).mono ?_
        rintro e w1 ⟨rfl, b1⟩
        have HO1 : Hid (w1.ownsRow w.heap.size 5 1 (.slice gv pre.length cv) pre.length (pre.map (Value.int .u8)) ∧ Below w.heap.size w w1) := ⟨tOwns_keep HO.out.1 (fun q hq => b1.block q (HO.out.1.lt q hq).2), HO.out.2.trans (b1.mono HO.out.2.size)⟩
        have hr2 := tRange HO1.out.2 hb0 hr0
        clear b1 HO hr1
        obtain ⟨E, hE⟩ : ∃ E, lacE ⟨k, n, a, p, d⟩ = E := ⟨_, rfl⟩
        by_cases hE0 : E = 0
        · have hok := lacE_ok.1 (hE.trans hE0)
          rw [hE, hE0]
          have HV3 : Hid (∀ j, j < i + 1 → LacOk (laF l j)) := HV2.out hok
          have HOK : Hid (LacOk ⟨k, n, a, p, d⟩) := hok
          have HLL : Hid ((lineL ⟨k, n, a, p, d⟩).length ≤ 4100) := lineL_len hok
          have HLB : Hid (∀ c ∈ lineL ⟨k, n, a, p, d⟩, 0 ≤ c ∧ c < 256) := lineL_bytes (x := ⟨k, n, a, p, d⟩) HSL.out.byte
          clear hE hE0 hok HBD HV2
          go_wp2_with (refine wpList_load_mid rfl 24 _ rfl b0 (o0 + 5 * i) rfl [.int .i64 k, .int .i64 n, .int .i64 a, .int .i64 p, .slice xa d.length xp] _ hr2 Tryd.underlying24 rfl laSize ?_)
          refine (actLine_any k n a p _ d w1 (HSL.out.below HO1.out.2) HOK.out).mono ?_
          rintro e w2 ⟨v2, rfl, o2, b2⟩
          have HO2 : Hid (w2.ownsRow w.heap.size 5 1 (.slice gv pre.length cv) pre.length (pre.map (Value.int .u8)) ∧ Below w.heap.size w w2) := ⟨tOwns_keep HO1.out.1 (fun q hq => b2.block q (HO1.out.1.lt q hq).2), HO1.out.2.trans (b2.mono HO1.out.2.size)⟩
          generalize lineL ⟨k, n, a, p, d⟩ = ln at o2 HT HLL HLB
          have s2 := Sl.ofOwns o2 (by have := HLL.out; omega) HLB.out
          obtain ⟨g2, c2, rfl⟩ := tOwns_shape o2
          have HSL2 : Hid _ := s2
          have hll := HLL.out
          clear b2 o2 HO1 s2 hr2 hr0
          go_upto_region 11 with (at_builtin; refine wpList_append_sl _ rfl _ _ 22 rfl w.heap.size 5 Tryd.underlying22 info5 _ _ rfl rfl pre ln HO2.out.1 HSL2.out (by omega) HO2.out.2.size ?_; intro v3 w3 o3 g3)
          have HO3 : Hid (w3.ownsRow w.heap.size 5 1 v3 (pre ++ ln).length ((pre ++ ln).map (Value.int .u8)) ∧ Below w.heap.size w w3) := ⟨o3, HO2.out.2.grown g3 HO2.out.2.size (fun q hq => (HO2.out.1.lt q hq).1)⟩
          have hpl : (pre ++ ln).length ≤ 410110000 := by rw [List.length_append]; omega
          generalize pre ++ ln = pl at HO3 HT hpl
          obtain ⟨g4, c4, hv3⟩ := tOwns_shape HO3.out.1
          subst hv3
          have hsz3 := HO3.out.2.size
          clear HO2 HSL2 o3 g3
          go_wp2_with (at_builtin; refine wpList_append_sl _ rfl _ _ 22 rfl w.heap.size 5 Tryd.underlying22 info5 _ _ rfl rfl pl [10] (HO3.out.1.alloc _) (one_sl _ 10 (by omega) (by omega)) (by simp only [List.length_cons, List.length_nil]; omega) (by simp; omega) ?_; intro v5 w5 o5 g5)
          have HO5 : Hid (w5.ownsRow w.heap.size 5 1 v5 (flatA (l.take (i + 1))).length ((flatA (l.take (i + 1))).map (Value.int .u8)) ∧ Below w.heap.size w w5) := by
            unfold Hid
            rw [HT.out]
            exact ⟨o5, (HO3.out.2.alloc HO3.out.2.size _).grown g5 (by simp; omega) (fun q hq => (HO3.out.1.lt q hq).1)⟩
          clear o5 g5 HO3
          go_wp2
          go_roundw
          case rel => exact ⟨i + 1, by omega, by go_num, HO5, HV3⟩
          case measure => simp [intOf]; omega
        · have HB3 := HBD.out (by rw [hE]; exact hE0)
          rw [hE] at HB3 ⊢
          have HS : Hid (ShwA l [] (i : Int) E) := .inr ⟨hl, HB3, by rw [if_neg hE0]⟩
          have hne : (E != 0) = true := ne_bne hE0
          clear hE HB3 hE0 HBD HV2 HT
          go_wp2
          go_ret3
          exact ⟨[], _, _, rfl, HS.out, HO1.out.2⟩
      · obtain rfl : i = l.length := by omega
        have hlI : ¬ (l.length : Int) < (l.length : Int) := by omega
        have HS : Hid (ShwA l (flatA l) 0 0) := by
          refine .inr ⟨hl, .inr ⟨fun x hx => ?_, rfl, rfl⟩, by rw [if_pos rfl]⟩
          obtain ⟨j, hj, rfl⟩ := List.mem_iff_getElem.1 hx
          rw [← laF_at hj]
          exact HV.out j hj
        have hby := HB.out l.length
        rw [List.take_length] at HO hfl hby
        have hsl := Sl.ofOwns HO.out.1 (by omega) hby
        obtain ⟨gv, cv, hev⟩ := tOwns_shape HO.out.1
        subst hev
        have cvt := run_convert_sl (P := Tryd.prog) _ 22 9 5 Tryd.underlying22 Tryd.underlying5 Tryd.underlying9 _ _ hsl
        generalize flatA l = ft at HS cvt HO
        clear hsl hby hfl HV HB HSK
        go_wp2
        go_ret3
        exact ⟨_, _, _, rfl, HS.out, HO.out.2⟩
  · have hl2 : (100000 : Int) < (l.length : Int) := by omega
    have HS : Hid (ShwA l [] 0 1) := .inl ⟨by omega, rfl, rfl, rfl⟩
    clear hl
    go_enter Tryd.func13, Tryd.ntmps13
    go_wp2
    go_ret3
    exact ⟨[], _, _, rfl, HS.out, Below.refl _ _⟩
end Go.Proofs.YtlcbebiocmmbaaaDoor
