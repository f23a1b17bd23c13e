/-
  Acts that may be, shown.
-/
import Derived.Test.YtlcbebiocmmbaaaDoorLinChk
import Derived.Test.YtlcbebiocmmbaaaDoorLinAdd
import Derived.Test.YtlcbebiocmmbaaaDoorLinRow
namespace Go.Proofs.YtlcbebiocmmbaaaDoor
open Go.RowKit
set_option linter.unusedVariables false

theorem actV_of {x : Lac} (h : LacOk x) : ∃ k : Nat, x.k = (k : Int) ∧ ActV k x.n x.a x.p x.d := by
  obtain ⟨⟨k1, k9⟩, hn, ha, hp, hd, n0, a0, p0, d0⟩ := h
  obtain ⟨xk, n, a, p, d⟩ := x
  simp only at *
  obtain ⟨k, rfl⟩ : ∃ k : Nat, xk = (k : Int) := ⟨xk.toNat, by omega⟩
  refine ⟨k, rfl, ⟨by omega, by omega, fun j hj => ?_, fun j hj hu => ?_, hd, fun e => d0 (by omega)⟩⟩
  · rcases (by omega : j = 0 ∨ j = 1 ∨ j = 2) with rfl | rfl | rfl
    · show 0 ≤ n ∧ n ≤ 4
      cases hu : useN (k : Int) with
      | true => exact hn hu
      | false => rw [n0 hu]; omega
    · show 0 ≤ a ∧ a ≤ 1048576
      cases hu : useA (k : Int) with
      | true => exact ha hu
      | false => rw [a0 hu]; omega
    · show 0 ≤ p ∧ p ≤ 100000
      cases hu : useK (k : Int) with
      | true => exact hp hu
      | false => rw [p0 hu]; omega
  · rcases (by omega : j = 0 ∨ j = 1 ∨ j = 2) with rfl | rfl | rfl
    · exact n0 hu
    · exact a0 hu
    · exact p0 hu
theorem numB {k : Nat} {n a p : Int} {d : List Int} (h : ActV k n a p d) (j : Nat) : 0 ≤ numF ⟨(k : Int), n, a, p, d⟩ j ∧ numF ⟨(k : Int), n, a, p, d⟩ j ≤ 1048576 := by
  have h0 := h.nb 0 (by omega)
  have h1 := h.nb 1 (by omega)
  have h2 := h.nb 2 (by omega)
  simp only [numF, bndF] at h0 h1 h2 ⊢
  simp at h0 h1 h2
  split
  · omega
  · split <;> omega
theorem flatA_take {l : List Lac} {i : Nat} (h : i < l.length) : flatA (l.take (i + 1)) = flatA (l.take i) ++ (lineL (laF l i) ++ [10]) := by
  rw [List.take_succ_eq_append_getElem h, flatA_snoc, laF_at h]
theorem lineL_len {x : Lac} (h : LacOk x) : (lineL x).length ≤ 4100 := by
  obtain ⟨k, hk, hv⟩ := actV_of h
  obtain ⟨xk, n, a, p, d⟩ := x
  simp only at hk hv
  subst hk
  have h1 := (numsL_len ⟨(k : Int), n, a, p, d⟩ (numB hv) 2 (by omega)).2
  have h1' : (numsL ⟨(k : Int), n, a, p, d⟩ 3).length ≤ 24 := h1
  have h2 := wordL_len (k : Int)
  have h3 := hv.dl
  rw [lineL_nums]
  simp only [List.length_append]
  split
  · simp only [List.length_cons, hexL_length]; omega
  · simp only [List.length_nil]; omega
theorem flatA_len2 {l : List Lac} (h : ∀ x ∈ l, LacOk x) : (flatA l).length ≤ 4101 * l.length := by
  induction l with
  | nil => simp [flatA]
  | cons a l ih =>
    have h1 := lineL_len (h a (by simp))
    have h2 := ih (fun x hx => h x (by simp [hx]))
    rw [flatA_cons]
    simp only [List.length_append, List.length_cons]
    omega
theorem laOne (k n a p : Int) (xa : Option Addr) (xm xp : Nat) : (laA k n a p (.slice xa xm xp)).all (·.oneCell') = true := by simp [laA, Value.oneCell']
set_option maxHeartbeats 4000000 in
set_option maxRecDepth 100000 in
theorem handOn_ok (w0 : World) (b : Nat) (a0 : Option Addr) (cp : Nat) (l : List Lac) (w : World) (hs : Sk w0 (.slice a0 l.length cp) (laF l) l.length) (hv : ∀ x ∈ l, LacOk x) (hl : l.length ≤ 100000) (hp : Pg w0.heap.size b [] w) (h0 : Below w0.heap.size w0 w) (tw : LWTab w0) (tb : LBTab w0) (tp : LPTab w0) :
    Calls Tryd.prog 26 #[.slice a0 l.length cp, .func (Fn.func 27) #[.pointer (some ⟨b, 0, none⟩)] #[]] w fun e w' => e = .returned (.tuple #[.int .i64 0, .int .i64 0]) ∧ (l = [] → w' = w) ∧ Pg w0.heap.size b (flatA l) w' ∧ Below w0.heap.size w0 w' := by
  have HS : Hid (Sk w0 (.slice a0 l.length cp) (laF l) l.length) := hs
  have HV : Hid (∀ x ∈ l, LacOk x) := hv
  clear hs hv
  go_enter Tryd.func26, Tryd.ntmps26
  go_wp2_with fail
  go_loopw [11] (fun iv wr => ∃ i : Nat, i ≤ l.length ∧ iv = .int .i64 (i : Int) ∧ Hid ((i = 0 → wr = w) ∧ Pg w0.heap.size b (flatA (l.take i)) wr ∧ Below w0.heap.size w0 wr)) (fun iv _ => ((l.length : Int) - intOf iv).toNat)
  case atStart => exact ⟨0, by omega, rfl, fun _ => rfl, hp, h0⟩
  case round =>
    obtain ⟨i, hin, rfl, HP⟩ := hrel
    by_cases hlt : i < l.length
    · have hlI : (i : Int) < (l.length : Int) := by omega
      have i0 : (0 : Int) ≤ (i : Int) := by omega
      obtain ⟨b0, o0, xa, xm, xp, rfl, hb0, hr0, hs0⟩ := HS.out.spot i hlt
      have hok : LacOk (laF l i) := by rw [laF_at hlt]; exact HV.out _ (List.getElem_mem hlt)
      have HT : Hid (flatA (l.take (i + 1)) = flatA (l.take i) ++ (lineL (laF l i) ++ [10])) := flatA_take hlt
      have hfl : (flatA (l.take i)).length ≤ 4101 * (l.take i).length := flatA_len2 (fun x hx => HV.out x (List.mem_of_mem_take hx))
      rw [List.length_take] at hfl
      have hr1 := tRange HP.out.2.2 hb0 hr0
      generalize laF l i = x at hok HT hr1 hs0
      obtain ⟨k, hk, hva⟩ := actV_of hok
      obtain ⟨xk, n, a, p, d⟩ := x
      simp only at hk hva hs0
      subst hk
      obtain ⟨_, _, e⟩ := hs0.shapeT
      simp only [Value.slice.injEq] at e
      obtain ⟨rfl, rfl, rfl⟩ := e
      have HA : Hid (ActV k n a p d ∧ Sl w0 (.slice xa d.length xp) d) := ⟨hva, hs0⟩
      have ixl := runIndexL b0 o0 l.length cp i hlt
      simp only [laV] at hr1
      clear hr0 hb0 hs0 hva hok
      obtain ⟨Wz, hWz⟩ : ∃ W, wr.alloc (.cells #[.int .i64 0, .int .i64 0, .int .i64 0, .int .i64 0, .slice none 0 0] 24) = W := ⟨_, rfl⟩
      have rz : Wz.heap[wr.heap.size]? = some (.cells #[.int .i64 0, .int .i64 0, .int .i64 0, .int .i64 0, .slice none 0 0] 24) := by rw [← hWz]; exact heap_alloc_new _ _
      have bz : Below wr.heap.size wr Wz := by rw [← hWz]; exact (Below.refl _ _).alloc (Nat.le_refl _) _
      have rzo := setRow_heap Wz wr.heap.size _ (laA (k : Int) n a p (.slice xa d.length xp)) 24 _ rz
      have bzo := tBelow_row bz (Nat.le_refl _) (laA (k : Int) n a p (.slice xa d.length xp))
      obtain ⟨Wo, hWo⟩ : ∃ W, Wz.setRow wr.heap.size (laA (k : Int) n a p (.slice xa d.length xp)) = W := ⟨_, rfl⟩
      have ro1 := rzo
      unfold laA at ro1
      have RO1 : Hid _ := ro1
      clear ro1
      rw [hWo] at rzo bzo
      have HO : Hid (Below wr.heap.size wr Wo ∧ Wo.heap[wr.heap.size]? = some (.cells (laA (k : Int) n a p (.slice xa d.length xp)) 24)) := ⟨bzo, rzo⟩
      have RZ : Hid _ := rz
      have ro := rzo
      unfold laA at ro
      have RO : Hid _ := ro
      clear ro
      clear rzo bzo bz rz
      unfold laA at hWo
      go_wp2_with (first
        | (refine wpList_load_mid rfl 24 _ rfl b0 (o0 + 5 * i) rfl [.int .i64 (k : Int), .int .i64 n, .int .i64 a, .int .i64 p, .slice xa d.length xp] _ hr1 Tryd.underlying24 rfl laSize ?_)
        | (refine wpList_store_row rfl 24 (.tmp 7) (.tmp 15) rfl wr.heap.size #[.int .i64 (k : Int), .int .i64 n, .int .i64 a, .int .i64 p, .slice xa d.length xp] rfl rfl 24 _ RZ.out laSize rfl (laOne _ _ _ _ _ _ _) ?_)
        | (refine wpList_load_row rfl 24 _ rfl wr.heap.size rfl 24 _ (0, 0) _ RO.out Tryd.underlying24 rfl laSize ?_)
        | (refine wpList_load_row rfl 24 _ rfl wr.heap.size rfl 24 _ (0, 0) _ RO1.out Tryd.underlying24 rfl laSize ?_))
      have HO2 : Hid (Below w0.heap.size w0 Wo ∧ Pg w0.heap.size b (flatA (l.take i)) Wo) := ⟨HP.out.2.2.trans (HO.out.1.mono HP.out.2.2.size), HP.out.2.1.below HO.out.1⟩
      clear hWz hWo hr1 RZ HP
      refine (check_ok k n a p d HA.out.1 xa xp Wo (tw.below HO2.out.1) (tb.below HO2.out.1)).mono ?_
      rintro e w3 ⟨rfl, b3⟩
      have H3 : Hid (Below w0.heap.size w0 w3 ∧ Pg w0.heap.size b (flatA (l.take i)) w3) := ⟨HO2.out.1.trans (b3.mono HO2.out.1.size), HO2.out.2.below b3⟩
      have r3 := (b3.block _ (Array.getElem?_eq_some_iff.1 HO.out.2).1).trans HO.out.2
      unfold laA at r3
      have R3 : Hid _ := r3
      clear b3 r3 HO HO2 RO
      go_wp2_with (refine wpList_load_row rfl 24 _ rfl wr.heap.size rfl 24 _ (0, 0) _ R3.out Tryd.underlying24 rfl laSize ?_)
      refine (add_any w0 b _ k n a p d _ HA.out.1.k1 HA.out.1.k9 (numB HA.out.1) HA.out.2 HA.out.1.dl w3 H3.out.2 H3.out.1 tw tp (by omega)).mono ?_
      rintro e w4 ⟨rfl, p4, b4⟩
      have HQ : Hid ((i + 1 = 0 → w4 = w) ∧ Pg w0.heap.size b (flatA (l.take (i + 1))) w4 ∧ Below w0.heap.size w0 w4) := ⟨fun e => by omega, by rw [HT.out]; exact p4, b4⟩
      clear p4 b4 H3 R3
      go_wp2
      go_roundw
      case rel => exact ⟨i + 1, by omega, by go_num, HQ⟩
      case measure => simp [intOf]; omega
    · obtain rfl : i = l.length := by omega
      have hlI : ¬ (l.length : Int) < (l.length : Int) := by omega
      have HQ : Hid ((l = [] → wr = w) ∧ Pg w0.heap.size b (flatA l) wr ∧ Below w0.heap.size w0 wr) := ⟨fun e => HP.out.1 (by rw [e]; rfl), by have h := HP.out.2.1; rwa [List.take_length] at h, HP.out.2.2⟩
      clear HP
      go_wp2
      go_ret2
      exact ⟨rfl, HQ.out⟩
theorem hexL_bytes {d : List Int} (h : ∀ x ∈ d, 0 ≤ x ∧ x < 256) : ∀ c ∈ hexL d, 0 ≤ c ∧ c < 256 := by
  induction d with
  | nil => intro c hc; simp [hexL] at hc
  | cons x d ih =>
    have hx := h x (by simp)
    have hh : ∀ n : Int, 0 ≤ n → n < 16 → 0 ≤ hxD n ∧ hxD n < 256 := fun n h0 h1 => by unfold hxD; split <;> omega
    intro c hc
    simp only [hexL, List.mem_cons] at hc
    rcases hc with rfl | rfl | hc
    · exact hh _ (by omega) (by omega)
    · exact hh _ (by omega) (by omega)
    · exact ih (fun y hy => h y (by simp [hy])) c hc
theorem lineL_bytes {x : Lac} (hb : DatB x) : ∀ c ∈ lineL x, 0 ≤ c ∧ c < 256 := by
  intro c hc
  rw [lineL_nums] at hc
  have hnums : ∀ j, ∀ c ∈ numsL x j, 0 ≤ c ∧ c < 256 := fun j => by
    induction j with
    | zero => intro c hc; simp [numsL] at hc
    | succ j ih =>
      intro c hc
      rw [numsL, List.mem_append] at hc
      rcases hc with hc | hc
      · exact ih c hc
      · split at hc
        · rcases List.mem_cons.1 hc with rfl | hc
          · omega
          · exact decL_byte _ c hc
        · simp at hc
  simp only [List.mem_append] at hc
  rcases hc with (hc | hc) | hc
  · exact wordL_bytes _ c hc
  · exact hnums 3 c hc
  · split at hc
    · rcases List.mem_cons.1 hc with rfl | hc
      · omega
      · exact hexL_bytes hb c hc
    · simp at hc
theorem flatA_bytes {l : List Lac} (hb : ∀ x ∈ l, DatB x) : ∀ c ∈ flatA l, 0 ≤ c ∧ c < 256 := by
  intro c hc
  obtain ⟨x, hx, hc⟩ := List.mem_flatMap.1 hc
  rcases List.mem_append.1 hc with hc | hc
  · exact lineL_bytes (hb x hx) c hc
  · simp at hc; omega
set_option maxHeartbeats 2000000 in
set_option maxRecDepth 100000 in
theorem show_ok (v : Value) (l : List Lac) (w : World) (hs : Sk w v (laF l) l.length) (hv : ∀ x ∈ l, LacOk x) (hb : ∀ x ∈ l, DatB x) (hl : l.length ≤ 100000) (tw : LWTab w) (tb : LBTab w) (tp : LPTab w) :
    Calls Tryd.prog 12 #[v] w fun e w' => e = .returned (.tuple #[.string (strOfNums (flatA l)), .int .i64 0, .int .i64 0]) ∧ Below w.heap.size w w' := by
  obtain ⟨a0, cp, rfl⟩ := hs.shape
  have hl2 : ¬ (100000 : Int) < (l.length : Int) := by omega
  have bz : Below w.heap.size w (w.alloc (.cells #[.pointer none, .slice none 0 0] 53)) := (Below.refl _ _).alloc (Nat.le_refl _) _
  have HF : Hid (∀ x ∈ flatA l, 0 ≤ x ∧ x < 256) := flatA_bytes hb
  go_enter Tryd.func12, Tryd.ntmps12
  go_wp2_with fail
  refine (handOn_ok w w.heap.size a0 cp l _ hs hv hl (Pg.new w) bz tw tb tp).mono ?_
  rintro e w2 ⟨rfl, e2, p2, b2⟩
  by_cases hnil : l = []
  · obtain rfl := e2 hnil
    subst hnil
    go_wp2_with fail
    refine (bString_nil w.heap.size w.heap.size (.pointer none) _ (heap_alloc_new _ _)).mono ?_
    rintro e w3 ⟨rfl, b3⟩
    have d3 := b2.trans b3
    clear b2 b3 bz p2
    go_wp2
    go_ret3
    exact ⟨rfl, d3⟩
  · have HN : Hid (flatA l ≠ []) := fun e => hnil (by
      cases l with
      | nil => rfl
      | cons a l => rw [flatA_cons] at e; simp at e)
    clear e2 hnil
    go_wp2_with fail
    refine (bString_some w.heap.size w.heap.size (flatA l) w2 p2 HF.out HN.out).mono ?_
    rintro e w3 ⟨rfl, b3⟩
    have d3 := b2.trans b3
    clear b2 b3 bz p2
    go_wp2
    go_ret3
    exact ⟨rfl, d3⟩
end Go.Proofs.YtlcbebiocmmbaaaDoor
