/-
  Acts, shown or refused.
-/
import Derived.Test.YtlcbebiocmmbaaaDoorLinShw
namespace Go.Proofs.YtlcbebiocmmbaaaDoor
open Go.RowKit
set_option linter.unusedVariables false

/-- the first act that may not be, and why; or that all may -/
def HndA (l : List Lac) (q E : Int) : Prop :=
  (∃ k : Nat, k < l.length ∧ (∀ j, j < k → LacOk (laF l j)) ∧ lacE (laF l k) ≠ 0 ∧ q = (k : Int) ∧ E = lacE (laF l k)) ∨ ((∀ x ∈ l, LacOk x) ∧ q = 0 ∧ E = 0)
/-- what showing answers -/
def ShwA (l : List Lac) (t : List Int) (q E : Int) : Prop :=
  (100000 < l.length ∧ t = [] ∧ q = 0 ∧ E = 1) ∨ (l.length ≤ 100000 ∧ HndA l q E ∧ t = if E = 0 then flatA l else [])
theorem HndA.unique {l : List Lac} {q q' E E' : Int} (h : HndA l q E) (h' : HndA l q' E') : q = q' ∧ E = E' := by
  rcases h with ⟨k, hk, ho, he, rfl, rfl⟩ | ⟨ha, rfl, rfl⟩
  · rcases h' with ⟨k', hk', ho', he', rfl, rfl⟩ | ⟨ha', rfl, rfl⟩
    · have : k = k' := by
        rcases Nat.lt_trichotomy k k' with h1 | h1 | h1
        · exact absurd (lacE_ok.2 (ho' k h1)) he
        · exact h1
        · exact absurd (lacE_ok.2 (ho k' h1)) he'
      subst this
      exact ⟨rfl, rfl⟩
    · refine absurd (lacE_ok.2 ?_) he
      rw [laF_at hk]
      exact ha' _ (List.getElem_mem hk)
  · rcases h' with ⟨k', hk', ho', he', rfl, rfl⟩ | ⟨ha', rfl, rfl⟩
    · refine absurd (lacE_ok.2 ?_) he'
      rw [laF_at hk']
      exact ha _ (List.getElem_mem hk')
    · exact ⟨rfl, rfl⟩
theorem ShwA.unique {l : List Lac} {t t' : List Int} {q q' E E' : Int} (h : ShwA l t q E) (h' : ShwA l t' q' E') : t = t' ∧ q = q' ∧ E = E' := by
  rcases h with ⟨h1, rfl, rfl, rfl⟩ | ⟨h1, h2, rfl⟩
  · rcases h' with ⟨h1', rfl, rfl, rfl⟩ | ⟨h1', h2', rfl⟩
    · exact ⟨rfl, rfl, rfl⟩
    · omega
  · rcases h' with ⟨h1', rfl, rfl, rfl⟩ | ⟨h1', h2', rfl⟩
    · omega
    · obtain ⟨rfl, rfl⟩ := h2.unique h2'
      exact ⟨rfl, rfl, rfl⟩
set_option maxHeartbeats 4000000 in
set_option maxRecDepth 100000 in
theorem handOn_any (w0 : World) (b : Nat) (a0 : Option Addr) (cp : Nat) (l : List Lac) (w : World) (hs : Sk w0 (.slice a0 l.length cp) (laF l) l.length) (hl : l.length ≤ 100000) (hp : Pg w0.heap.size b [] w) (h0 : Below w0.heap.size w0 w) (tw : LWTab w0) (tb : LBTab w0) (tp : LPTab w0) :
    Calls Tryd.prog 26 #[.slice a0 l.length cp, .func (Fn.func 27) #[.pointer (some ⟨b, 0, none⟩)] #[]] w fun e w' => ∃ q E : Int, e = .returned (.tuple #[.int .i64 q, .int .i64 E]) ∧ HndA l q E ∧ (E = 0 → (l = [] → w' = w) ∧ Pg w0.heap.size b (flatA l) w') ∧ Below w0.heap.size w0 w' := by
  have HS : Hid (Sk w0 (.slice a0 l.length cp) (laF l) l.length) := hs
  clear hs
  go_enter Tryd.func26, Tryd.ntmps26
  go_wp2_with fail
  go_loopw [11] (fun iv wr => ∃ i : Nat, i ≤ l.length ∧ iv = .int .i64 (i : Int) ∧ Hid ((i = 0 → wr = w) ∧ Pg w0.heap.size b (flatA (l.take i)) wr ∧ Below w0.heap.size w0 wr) ∧ Hid (∀ j, j < i → LacOk (laF l j))) (fun iv _ => ((l.length : Int) - intOf iv).toNat)
  case atStart => exact ⟨0, by omega, rfl, ⟨fun _ => rfl, hp, h0⟩, fun j hj => by omega⟩
  case round =>
    obtain ⟨i, hin, rfl, HP, HV⟩ := hrel
    by_cases hlt : i < l.length
    · have hlI : (i : Int) < (l.length : Int) := by omega
      have i0 : (0 : Int) ≤ (i : Int) := by omega
      obtain ⟨b0, o0, xa, xm, xp, rfl, hb0, hr0, hs0⟩ := HS.out.spot i hlt
      have HBD : Hid (lacE (laF l i) ≠ 0 → HndA l (i : Int) (lacE (laF l i))) := fun e => .inl ⟨i, hlt, HV.out, e, rfl, rfl⟩
      have HV2 : Hid (LacOk (laF l i) → ∀ j, j < i + 1 → LacOk (laF l j)) := fun h j hj => by
        by_cases e : j = i
        · rw [e]; exact h
        · exact HV.out j (by omega)
      have HT : Hid (flatA (l.take (i + 1)) = flatA (l.take i) ++ (lineL (laF l i) ++ [10])) := flatA_take hlt
      have hfl : (flatA (l.take i)).length ≤ 4101 * (l.take i).length := flatA_len2 (fun x hx => by
        obtain ⟨j, hj, rfl⟩ := List.mem_iff_getElem.1 hx
        rw [List.length_take] at hj
        have h5 := HV.out j (by omega)
        rw [laF_at (by omega)] at h5
        rw [List.getElem_take]
        exact h5)
      rw [List.length_take] at hfl
      have hr1 := tRange HP.out.2.2 hb0 hr0
      generalize laF l i = x at HBD HV2 HT hr1 hs0
      obtain ⟨k, n, a, p, d⟩ := x
      simp only at hs0
      obtain ⟨_, _, e⟩ := hs0.shapeT
      simp only [Value.slice.injEq] at e
      obtain ⟨rfl, rfl, rfl⟩ := e
      have HA : Hid (Sl w0 (.slice xa d.length xp) d) := hs0
      have ixl := runIndexL b0 o0 l.length cp i hlt
      simp only [laV] at hr1
      clear hr0 hb0 hs0
      obtain ⟨Wz, hWz⟩ : ∃ W, wr.alloc (.cells #[.int .i64 0, .int .i64 0, .int .i64 0, .int .i64 0, .slice none 0 0] 24) = W := ⟨_, rfl⟩
      have rz : Wz.heap[wr.heap.size]? = some (.cells #[.int .i64 0, .int .i64 0, .int .i64 0, .int .i64 0, .slice none 0 0] 24) := by rw [← hWz]; exact heap_alloc_new _ _
      have bz : Below wr.heap.size wr Wz := by rw [← hWz]; exact (Below.refl _ _).alloc (Nat.le_refl _) _
      have rzo := setRow_heap Wz wr.heap.size _ (laA k n a p (.slice xa d.length xp)) 24 _ rz
      have bzo := tBelow_row bz (Nat.le_refl _) (laA k n a p (.slice xa d.length xp))
      obtain ⟨Wo, hWo⟩ : ∃ W, Wz.setRow wr.heap.size (laA k n a p (.slice xa d.length xp)) = W := ⟨_, rfl⟩
      have ro1 := rzo
      unfold laA at ro1
      have RO1 : Hid _ := ro1
      clear ro1
      rw [hWo] at rzo bzo
      have HO : Hid (Below wr.heap.size wr Wo ∧ Wo.heap[wr.heap.size]? = some (.cells (laA k n a p (.slice xa d.length xp)) 24)) := ⟨bzo, rzo⟩
      have RZ : Hid _ := rz
      have ro := rzo
      unfold laA at ro
      have RO : Hid _ := ro
      clear ro
      clear rzo bzo bz rz
      unfold laA at hWo
      go_wp2_with (first
        | (refine wpList_load_mid rfl 24 _ rfl b0 (o0 + 5 * i) rfl [.int .i64 k, .int .i64 n, .int .i64 a, .int .i64 p, .slice xa d.length xp] _ hr1 Tryd.underlying24 rfl laSize ?_)
        | (refine wpList_store_row rfl 24 (.tmp 7) (.tmp 15) rfl wr.heap.size #[.int .i64 k, .int .i64 n, .int .i64 a, .int .i64 p, .slice xa d.length xp] rfl rfl 24 _ RZ.out laSize rfl (laOne _ _ _ _ _ _ _) ?_)
        | (refine wpList_load_row rfl 24 _ rfl wr.heap.size rfl 24 _ (0, 0) _ RO.out Tryd.underlying24 rfl laSize ?_)
        | (refine wpList_load_row rfl 24 _ rfl wr.heap.size rfl 24 _ (0, 0) _ RO1.out Tryd.underlying24 rfl laSize ?_))
      have HO2 : Hid (Below w0.heap.size w0 Wo ∧ Pg w0.heap.size b (flatA (l.take i)) Wo) := ⟨HP.out.2.2.trans (HO.out.1.mono HP.out.2.2.size), HP.out.2.1.below HO.out.1⟩
      clear hWz hWo hr1 RZ HP
      refine (check_all k n a p d HA.out.len xa xp Wo (tw.below HO2.out.1) (tb.below HO2.out.1)).mono ?_
      rintro e w3 ⟨rfl, b3⟩
      have H3 : Hid (Below w0.heap.size w0 w3 ∧ Pg w0.heap.size b (flatA (l.take i)) w3) := ⟨HO2.out.1.trans (b3.mono HO2.out.1.size), HO2.out.2.below b3⟩
      have r3 := (b3.block _ (Array.getElem?_eq_some_iff.1 HO.out.2).1).trans HO.out.2
      unfold laA at r3
      have R3 : Hid _ := r3
      clear b3 r3 HO HO2 RO
      obtain ⟨E, hE⟩ : ∃ E, lacE ⟨k, n, a, p, d⟩ = E := ⟨_, rfl⟩
      by_cases hE0 : E = 0
      · have hok := lacE_ok.1 (hE.trans hE0)
        obtain ⟨kk, hk, hva⟩ := actV_of hok
        simp only at hk hva
        rw [hE, hE0]
        have HVN := HV2.out hok
        have HV3 : Hid (∀ j, j < i + 1 → LacOk (laF l j)) := HVN
        subst hk
        have HAV : Hid (ActV kk n a p d) := hva
        clear hE hE0 hok HVN HBD HV2 hva
        go_wp2_with (refine wpList_load_row rfl 24 _ rfl wr.heap.size rfl 24 _ (0, 0) _ R3.out Tryd.underlying24 rfl laSize ?_)
        refine (add_any w0 b _ kk n a p d _ HAV.out.k1 HAV.out.k9 (numB HAV.out) HA.out HAV.out.dl w3 H3.out.2 H3.out.1 tw tp (by omega)).mono ?_
        rintro e w4 ⟨rfl, p4, b4⟩
        have HQ : Hid ((i + 1 = 0 → w4 = w) ∧ Pg w0.heap.size b (flatA (l.take (i + 1))) w4 ∧ Below w0.heap.size w0 w4) := ⟨fun e => by omega, by rw [HT.out]; exact p4, b4⟩
        clear p4 b4 H3 R3
        go_wp2
        go_roundw
        case rel => exact ⟨i + 1, by omega, by go_num, HQ, HV3⟩
        case measure => simp [intOf]; omega
      · have HB3 := HBD.out (by rw [hE]; exact hE0)
        rw [hE] at HB3 ⊢
        have HB4 : Hid (HndA l (i : Int) E) := HB3
        have hne : (E != 0) = true := ne_bne hE0
        have HE0 : Hid (¬ E = 0) := hE0
        clear hE HB3 hE0 HBD HV2
        go_wp2
        go_ret2
        exact ⟨_, _, rfl, HB4.out, fun e => absurd e HE0.out, H3.out.1⟩
    · obtain rfl : i = l.length := by omega
      have hlI : ¬ (l.length : Int) < (l.length : Int) := by omega
      have HQ : Hid (HndA l 0 0 ∧ (l = [] → wr = w) ∧ Pg w0.heap.size b (flatA l) wr ∧ Below w0.heap.size w0 wr) := ⟨.inr ⟨fun x hx => by obtain ⟨j, hj, rfl⟩ := List.mem_iff_getElem.1 hx; rw [← laF_at hj]; exact HV.out j hj, rfl, rfl⟩, fun e => HP.out.1 (by rw [e]; rfl), by have h := HP.out.2.1; rwa [List.take_length] at h, HP.out.2.2⟩
      clear HP HV
      go_wp2
      go_ret2
      exact ⟨_, _, rfl, HQ.out.1, fun _ => ⟨HQ.out.2.1, HQ.out.2.2.1⟩, HQ.out.2.2.2⟩
set_option maxHeartbeats 2000000 in
set_option maxRecDepth 100000 in
theorem show_any (v : Value) (l : List Lac) (w : World) (hs : Sk w v (laF l) l.length) (hb : ∀ x ∈ l, DatB x) (tw : LWTab w) (tb : LBTab w) (tp : LPTab w) :
    Calls Tryd.prog 12 #[v] w fun e w' => ∃ (t : List Int) (q E : Int), e = .returned (.tuple #[.string (strOfNums t), .int .i64 q, .int .i64 E]) ∧ ShwA l t q E ∧ Below w.heap.size w w' := by
  obtain ⟨a0, cp, rfl⟩ := hs.shape
  have hlen := hs.len
  by_cases hl : l.length ≤ 100000
  · have hl2 : ¬ (100000 : Int) < (l.length : Int) := by omega
    have bz : Below w.heap.size w (w.alloc (.cells #[.pointer none, .slice none 0 0] 53)) := (Below.refl _ _).alloc (Nat.le_refl _) _
    have HF : Hid (∀ x ∈ flatA l, 0 ≤ x ∧ x < 256) := flatA_bytes hb
    go_enter Tryd.func12, Tryd.ntmps12
    go_wp2_with fail
    refine (handOn_any w w.heap.size a0 cp l _ hs hl (Pg.new w) bz tw tb tp).mono ?_
    rintro e w2 ⟨q, E, rfl, hA, hp, b2⟩
    by_cases hE : E = 0
    · obtain ⟨e2, p2⟩ := hp hE
      have HS : Hid (ShwA l (flatA l) 0 0) := by
        refine .inr ⟨hl, ?_, by rw [if_pos rfl]⟩
        rcases hA with ⟨k, _, _, h1, _, h2⟩ | ⟨h1, _, _⟩
        · exact absurd (h2.symm.trans hE) h1
        · exact .inr ⟨h1, rfl, rfl⟩
      subst hE
      clear hA hp
      by_cases hnil : l = []
      · obtain rfl := e2 hnil
        subst hnil
        go_wp2_with fail
        refine (bString_nil w.heap.size w.heap.size (.pointer none) _ (heap_alloc_new _ _)).mono ?_
        rintro e w3 ⟨rfl, b3⟩
        have d3 := b2.trans b3
        clear b2 b3 bz p2
        go_wp2
        go_ret3
        exact ⟨_, _, _, rfl, HS.out, d3⟩
      · have HN : Hid (flatA l ≠ []) := fun e => hnil (by
          cases l with
          | nil => rfl
          | cons a l => rw [flatA_cons] at e; simp at e)
        clear e2 hnil
        go_wp2_with fail
        refine (bString_some w.heap.size w.heap.size (flatA l) w2 p2 HF.out HN.out).mono ?_
        rintro e w3 ⟨rfl, b3⟩
        have d3 := b2.trans b3
        clear b2 b3 bz p2
        go_wp2
        go_ret3
        exact ⟨_, _, _, rfl, HS.out, d3⟩
    · have HS : Hid (ShwA l [] q E) := .inr ⟨hl, hA, by rw [if_neg hE]⟩
      have hne : (E != 0) = true := ne_bne hE
      clear hA hp hE
      go_wp2
      go_ret3
      exact ⟨[], _, _, rfl, HS.out, b2⟩
  · have hl2 : (100000 : Int) < (l.length : Int) := by omega
    have HS : Hid (ShwA l [] 0 1) := .inl ⟨by omega, rfl, rfl, rfl⟩
    clear hl
    go_enter Tryd.func12, Tryd.ntmps12
    go_wp2
    go_ret3
    exact ⟨[], _, _, rfl, HS.out, Below.refl _ _⟩
end Go.Proofs.YtlcbebiocmmbaaaDoor
