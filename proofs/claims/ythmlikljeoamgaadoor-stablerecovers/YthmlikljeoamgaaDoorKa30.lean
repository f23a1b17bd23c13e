/-
  The walks of what the laws call beside the program and the document's answer.
-/
import Derived.Test.YthmlikljeoamgaaDoorKa2
import Derived.Test.YthmlikljeoamgaaDoorKa7
import Derived.Test.YthmlikljeoamgaaDoorKa6
namespace Go.Proofs.YthmlikljeoamgaaDoor
open Go.RowKit

theorem octets_any (v : Value) (l : List Int) (w : World) (h : Sl w v l) :
    Calls Tryd.prog 18 #[v] w fun e w' => ∃ v', e = .returned v' ∧ w'.ownsRow w.heap.size 5 1 v' l.length (l.map (Value.int .u8)) ∧ Below w.heap.size w w' := by
  have hl := h.len
  go_enter Tryd.func18, Tryd.ntmps18
  go_wp2_with (at_builtin; refine wpList_append_sl _ rfl _ _ 22 rfl w.heap.size 5 Tryd.underlying22 info5 _ _ rfl rfl [] l (World.ownsRow_nil _ _ _ _) h (by simp; omega) (Nat.le_refl _) ?_)
  intro v' w' ho hg
  go_wp2
  go_ret
  exact ⟨v', rfl, by simpa using ho, (Below.refl _ _).grown hg (Nat.le_refl _) (by simp [Value.ownBlock])⟩

theorem law_same (va vb : Value) (la lb : List Int) (w : World) (ha : Sl w va la) (hb : Sl w vb lb) :
    Calls Tryd.prog 27 #[va, vb] w fun e w' => e = .returned (.bool (decide (la = lb))) ∧ w' = w := by
  have c1 := run_convert_sl (P := Tryd.prog) w 22 9 5 Tryd.underlying22 Tryd.underlying5 Tryd.underlying9 va la ha
  have c2 := run_convert_sl (P := Tryd.prog) w 22 9 5 Tryd.underlying22 Tryd.underlying5 Tryd.underlying9 vb lb hb
  have e := strOfNums_inj ha.byte hb.byte
  have H : Hid (strOfNums la = strOfNums lb ↔ la = lb) := e
  clear e
  go_enter Tryd.func27, Tryd.ntmps27
  go_wp2
  go_ret
  refine ⟨ret_bool ?_, rfl⟩
  have h := H.out
  rw [Bool.eq_iff_iff, decide_eq_true_iff, ← h, beq_iff_eq]
  exact ⟨fun e => ByteArray.ext (Array.ext' (by rw [← ba_toList, ← ba_toList, e])), fun e => by rw [e]⟩
end Go.Proofs.YthmlikljeoamgaaDoor
/-
  The walks of what the laws call for tapes: a copy, and whether two are the same.
-/
namespace Go.Proofs.YthmlikljeoamgaaDoor
open Go.RowKit
set_option linter.unusedVariables false

set_option maxHeartbeats 2000000 in
set_option maxRecDepth 100000 in
theorem tapes_any (x : Value) (d : List Int) (s : Int) (w : World) (h : Sl w x d) :
    Calls Tryd.prog 7 #[.agg (tpA x s)] w fun e w' => ∃ y, e = .returned (.agg (tpA y s)) ∧ w'.ownsRow w.heap.size 5 1 y d.length (d.map (Value.int .u8)) ∧ Below w.heap.size w w' := by
  have hlen := h.len
  obtain ⟨ax, cp, rfl⟩ := h.shapeT
  obtain ⟨M, hM⟩ : ∃ M, d.length = M := ⟨_, rfl⟩
  have HM : Hid (d.length = M) := hM
  rw [hM] at h hlen ⊢
  clear hM
  simp only [tpA]
  obtain ⟨W0, hW0⟩ : ∃ W0, (w.alloc (.cells #[.slice ax M cp, .int .i64 s] 24)).alloc (.cells #[.slice none 0 0, .int .i64 0] 24) = W0 := ⟨_, rfl⟩
  have r0_p : W0.heap[w.heap.size]? = some (.cells #[.slice ax M cp, .int .i64 s] 24) := by rw [← hW0]; exact t_alloc2_0 _ _ _
  have r0_r : W0.heap[w.heap.size + 1]? = some (.cells #[.slice none 0 0, .int .i64 0] 24) := by rw [← hW0]; exact t_alloc2_1 _ _ _
  have bb : Below w.heap.size w W0 := by rw [← hW0]; exact t_allocB2 _ _ _
  have l0_p : w.heap.size < W0.heap.size := (Array.getElem?_eq_some_iff.1 r0_p).1
  have l0_r : (w.heap.size + 1) < W0.heap.size := (Array.getElem?_eq_some_iff.1 r0_r).1
  have sl0_x := h.below bb
  go_enter Tryd.func7, Tryd.ntmps7
  have hc_p0 : W0.cell? ⟨w.heap.size, 0, none⟩ = some (.slice ax M cp) := cell_of_row _ _ 0 _ _ _ r0_p
  have hc_p1 : W0.cell? ⟨w.heap.size, 1, none⟩ = some (.int .i64 s) := cell_of_row _ _ 1 _ _ _ r0_p
  have hRC := bb.size
  go_wp2_with fail
  clear hW0
  apply t_mergeA (fun g c Wz => Wz.heap[w.heap.size + 1]? = some (.cells #[.slice g M c, .int .i64 s] 24) ∧ Wz.ownsRow W0.heap.size 5 1 (.slice g M c) M (d.map (Value.int .u8)) ∧ Below (w.heap.size + 1) W0 Wz)
  · intro K2 HK2
    have ed0 : Below W0.heap.size W0 W0.drew := (Below.refl _ _).drew
    have hle : (w.heap.size + 1) ≤ W0.heap.size := Nat.le_of_lt l0_r
    refine wp_region_held (S := fun w' => Below (w.heap.size + 1) W0 w') (by kernel_rfl) ?_
    have hS0 : (fun w' => Below (w.heap.size + 1) W0 w') W0.drew := ed0.mono hle
    refine heldTake (i := 0) 3 (v := .pointer (some ⟨w.heap.size, 0, none⟩)) rfl rfl (by kernel_rfl) (by kernel_rfl) (by kernel_rfl) (fun _ _ _ h => h) (Or.inl ⟨by rfl, fun _ _ => by kernel_rfl⟩) hS0 ?_
    simp only [Act.put, List.setIfInBounds_toArray, List.set_cons_zero, List.set_cons_succ]
    refine heldTake (i := 1) 4 (v := (.slice ax M cp)) rfl rfl (by kernel_rfl) (by kernel_rfl) (by kernel_rfl) (fun _ _ _ h => h) (yieldCell (by rfl) 22 (.tmp 3) rfl _ Tryd.underlying22 rfl ⟨w.heap.size, 0, none⟩ rfl (.slice ax M cp) (fun w' hw' => (hw'.cell (p := ⟨w.heap.size, 0, none⟩) (show w.heap.size < (w.heap.size + 1) by omega)).trans hc_p0)) hS0 ?_
    simp only [Act.put, List.setIfInBounds_toArray, List.set_cons_zero, List.set_cons_succ]
    refine heldTake (i := 3) 6 (v := .pointer (some ⟨w.heap.size, 1, none⟩)) rfl rfl (by kernel_rfl) (by kernel_rfl) (by kernel_rfl) (fun _ _ _ h => h) (Or.inl ⟨by rfl, fun _ _ => by kernel_rfl⟩) hS0 ?_
    simp only [Act.put, List.setIfInBounds_toArray, List.set_cons_zero, List.set_cons_succ]
    refine heldTake (i := 4) 7 (v := (.int .i64 s)) rfl rfl (by kernel_rfl) (by kernel_rfl) (by kernel_rfl) (fun _ _ _ h => h) (yieldCell (by rfl) 3 (.tmp 6) rfl _ Tryd.underlying3 rfl ⟨w.heap.size, 1, none⟩ rfl (.int .i64 s) (fun w' hw' => (hw'.cell (p := ⟨w.heap.size, 1, none⟩) (show w.heap.size < (w.heap.size + 1) by omega)).trans hc_p1)) hS0 ?_
    simp only [Act.put, List.setIfInBounds_toArray, List.set_cons_zero, List.set_cons_succ]
    refine heldOne (i := 2) (by kernel_rfl) (opCall (i := 2) (d := 5) (f := 18) (args := #[.slice ax M cp]) rfl (by kernel_rfl) rfl (by kernel_rfl) ((octets_any (.slice ax M cp) d W0.drew (sl0_x.below ed0)).mono ?_))
    rintro e' wh1 ⟨yj, rfl, oj, bh1⟩
    have eh1 : Below W0.heap.size W0 wh1 := ed0.trans (bh1.mono ed0.size)
    rw [HM.out] at oj
    obtain ⟨aj, cj, rfl⟩ := tOwns_shape oj
    refine ⟨_, rfl, (eh1.mono hle), ?_⟩
    simp only [Act.put, List.setIfInBounds_toArray, List.set_cons_zero, List.set_cons_succ]
    refine heldTake (i := 5) 8 (v := .agg #[.slice aj M cj, .int .i64 s]) rfl rfl (by kernel_rfl) (by kernel_rfl) (by kernel_rfl) (fun _ _ _ h => h) (Or.inl ⟨by rfl, fun _ _ => by kernel_rfl⟩) (eh1.mono hle) ?_
    simp only [Act.put, List.setIfInBounds_toArray, List.set_cons_zero, List.set_cons_succ]
    have hone : (#[.slice aj M cj, .int .i64 s] : Array Value).all (·.oneCell') = true := by simp [Value.oneCell']
    have rS := (eh1.block (w.heap.size + 1) l0_r).trans r0_r
    have e7 : Below (w.heap.size + 1) W0 (wh1.setRow (w.heap.size + 1) #[.slice aj M cj, .int .i64 s]) := tBelow_row (eh1.mono hle) (Nat.le_refl _) _
    have q7 := setRow_heap wh1 (w.heap.size + 1) _ (#[.slice aj M cj, .int .i64 s]) 24 _ rS
    refine heldOne (i := 6) (by kernel_rfl) (opStore (i := 6) rfl (by kernel_rfl) rfl 24 (.tmp 2) (.tmp 8) rfl (w.heap.size + 1) #[.slice aj M cj, .int .i64 s] (by kernel_rfl) (by kernel_rfl) 24 _ rS tpSize rfl hone ⟨e7, ?_⟩)
    have o7 := tOwns_keep (w' := (wh1.setRow (w.heap.size + 1) #[.slice aj M cj, .int .i64 s])) oj (fun k hk => setRow_other _ _ _ _ (by have := (oj.lt k hk).1; have := ed0.size; omega))
    exact wpAnyH_done (by kernel_rfl) (HK2.out aj cj _ ⟨q7, tOwns_base o7 ed0.size, e7⟩) _
  rintro g c W2 ⟨qR, oR, eR⟩
  have dR := bb.trans (eR.mono (by omega))
  clear hc_p0 hc_p1 r0_p r0_r
  go_wp2
  refine bodyPost_ret (tRow1 rfl _ _ (w.heap.size + 1) 24 _ (0, 0) _ rfl qR Tryd.underlying24 rfl tpSize) rfl ?_
  exact ⟨_, rfl, tOwns_base oR (by omega), dR⟩
set_option maxHeartbeats 2000000 in
set_option maxRecDepth 100000 in
theorem sameTape_any (x y : Value) (d f : List Int) (s t : Int) (w : World) (h : Sl w x d) (hy : Sl w y f) :
    Calls Tryd.prog 10 #[.agg (tpA x s), .agg (tpA y t)] w fun e w' => e = .returned (.bool (decide (s = t ∧ d = f))) ∧ Below w.heap.size w w' := by
  obtain ⟨ax, cp, rfl⟩ := h.shapeT
  obtain ⟨ay, cy, rfl⟩ := hy.shapeT
  obtain ⟨M, hM⟩ : ∃ M, d.length = M := ⟨_, rfl⟩
  obtain ⟨N, hN⟩ : ∃ N, f.length = N := ⟨_, rfl⟩
  rw [hM] at h ⊢
  rw [hN] at hy ⊢
  clear hM hN
  simp only [tpA]
  obtain ⟨W0, hW0⟩ : ∃ W0, (w.alloc (.cells #[.slice ax M cp, .int .i64 s] 24)).alloc (.cells #[.slice ay N cy, .int .i64 t] 24) = W0 := ⟨_, rfl⟩
  have r0_p : W0.heap[w.heap.size]? = some (.cells #[.slice ax M cp, .int .i64 s] 24) := by rw [← hW0]; exact t_alloc2_0 _ _ _
  have r0_q : W0.heap[w.heap.size + 1]? = some (.cells #[.slice ay N cy, .int .i64 t] 24) := by rw [← hW0]; exact t_alloc2_1 _ _ _
  have bb : Below w.heap.size w W0 := by rw [← hW0]; exact t_allocB2 _ _ _
  have l0_p : w.heap.size < W0.heap.size := (Array.getElem?_eq_some_iff.1 r0_p).1
  have l0_q : (w.heap.size + 1) < W0.heap.size := (Array.getElem?_eq_some_iff.1 r0_q).1
  have sl0_x := h.below bb
  have sl0_y := hy.below bb
  go_enter Tryd.func10, Tryd.ntmps10
  have cc1_p0 : W0.cell? ⟨w.heap.size, 0, none⟩ = some (.slice ax M cp) := cell_of_row _ _ 0 _ _ _ r0_p
  have cc1_p1 : W0.cell? ⟨w.heap.size, 1, none⟩ = some (.int .i64 s) := cell_of_row _ _ 1 _ _ _ r0_p
  have cc2_q0 : W0.cell? ⟨(w.heap.size + 1), 0, none⟩ = some (.slice ay N cy) := cell_of_row _ _ 0 _ _ _ r0_q
  have cc2_q1 : W0.cell? ⟨(w.heap.size + 1), 1, none⟩ = some (.int .i64 t) := cell_of_row _ _ 1 _ _ _ r0_q
  clear r0_p r0_q
  by_cases h1 : s = t
  · subst h1
    go_wp2_with fail
    refine (law_same (.slice ax M cp) (.slice ay N cy) d f W0 sl0_x sl0_y).mono ?_
    rintro e w1 ⟨rfl, hw1⟩
    replace hw1 := hw1.symm
    subst hw1
    go_wp2
    go_ret
    exact ⟨ret_bool rfl, bb⟩
  · have h1b : (s == t) = false := by simpa using h1
    have HD : Hid (decide (s = t ∧ d = f) = false) := decide_eq_false (fun g => h1 g.1)
    clear h1
    go_wp2
    go_ret
    exact ⟨ret_bool HD.out.symm, bb⟩
end Go.Proofs.YthmlikljeoamgaaDoor
/-
  The laws' own helper: votes that are the same.
-/
namespace Go.Proofs.YthmlikljeoamgaaDoor
open Go.RowKit
set_option linter.unusedVariables false

theorem agree_all {l m : List Vt} {n : Nat} (hl : l.length = n) (hm : m.length = n) (h : ∀ (i : Nat) (u v : Vt), i < n → l[i]? = some u → m[i]? = some v → u = v) : l = m := by
  apply List.ext_getElem?
  intro i
  rcases Nat.lt_or_ge i n with g | g
  · have e1 := List.getElem?_eq_getElem (show i < l.length by omega)
    have e2 := List.getElem?_eq_getElem (show i < m.length by omega)
    rw [e1, e2, h i _ _ g e1 e2]
  · rw [List.getElem?_eq_none (by omega), List.getElem?_eq_none (by omega)]

set_option maxHeartbeats 2000000 in
set_option maxRecDepth 100000 in
theorem sameVotes_any (x y : Value) (l m : List Vt) (w : World) (hx : Sv w x l) (hy : Sv w y m) :
    Calls Tryd.prog 37 #[x, y] w fun e w' => e = .returned (.bool (decide (l = m))) ∧ Below w.heap.size w w' := by
  have hlx := hx.len
  have hly := hy.len
  obtain ⟨ax, cx, rfl⟩ := hx.shape
  obtain ⟨ay, cy, rfl⟩ := hy.shape
  obtain ⟨N, hN⟩ : ∃ N, l.length = N := ⟨_, rfl⟩
  obtain ⟨M, hM⟩ : ∃ M, m.length = M := ⟨_, rfl⟩
  have HN : Hid (l.length = N) := hN
  have HM : Hid (m.length = M) := hM
  rw [hN] at hx hlx ⊢
  rw [hM] at hy hly ⊢
  clear hN hM
  by_cases hNM : (N : Int) = (M : Int)
  · obtain rfl : N = M := by omega
    go_enter Tryd.func37, Tryd.ntmps37
    go_wp2_with fail
    go_loopw [5] (fun iv wr => ∃ i : Nat, i ≤ N ∧ iv = .int .i64 (i : Int) ∧ (∀ (i' : Nat) (u v : Vt), i' < i → l[i']? = some u → m[i']? = some v → u = v) ∧ Below w.heap.size w wr) (fun iv _ => ((N : Int) - intOf iv).toNat)
    case atStart => exact ⟨0, by omega, rfl, fun i' u v hi' => by omega, Below.refl _ _⟩
    case round =>
      obtain ⟨i, hi, rfl, hag, hbel⟩ := hrel
      have HAG : Hid (∀ (i' : Nat) (u v : Vt), i' < i → l[i']? = some u → m[i']? = some v → u = v) := hag
      clear hag
      by_cases hin : i < N
      · have hini : (i : Int) < (N : Int) := by omega
        obtain ⟨u, hu⟩ : ∃ u, l[i]? = some u := ⟨_, List.getElem?_eq_getElem (by have := HN.out; omega)⟩
        obtain ⟨v, hv⟩ : ∃ v, m[i]? = some v := ⟨_, List.getElem?_eq_getElem (by have := HM.out; omega)⟩
        obtain ⟨b, off, rfl, ltb, hru⟩ := hx.spot i u hu
        obtain ⟨b2, off2, rfl, ltb2, hrv⟩ := hy.spot i v hv
        obtain ⟨us, ⟨ur, un⟩, ⟨uk, uc, uq, um, ux⟩⟩ := u
        obtain ⟨xs, ⟨xr, xn⟩, ⟨xk, xc, xq, xm, xx⟩⟩ := v
        simp only [vtC] at hru hrv
        have ru : wr.rangeAt b (off + 8 * i) [.int .i64 us, .int .i64 ur, .int .i64 un, .int .i64 uk, .int .i64 uc, .int .i64 uq, .int .i64 um, .int .i64 ux] := pRange hbel ltb hru
        have rx : wr.rangeAt b2 (off2 + 8 * i) [.int .i64 xs, .int .i64 xr, .int .i64 xn, .int .i64 xk, .int .i64 xc, .int .i64 xq, .int .i64 xm, .int .i64 xx] := pRange hbel ltb2 hrv
        have ltc := Nat.lt_of_lt_of_le ltb hbel.size
        have ltc2 := Nat.lt_of_lt_of_le ltb2 hbel.size
        go_wp2_with fail
        by_cases heq : (⟨us, ⟨ur, un⟩, ⟨uk, uc, uq, um, ux⟩⟩ : Vt) = ⟨xs, ⟨xr, xn⟩, ⟨xk, xc, xq, xm, xx⟩⟩
        · have HG : Hid (∀ (i' : Nat) (u v : Vt), i' < i + 1 → l[i']? = some u → m[i']? = some v → u = v) := by
            intro i' u v hi' h1 h2
            rcases Nat.lt_or_ge i' i with g | g
            · exact HAG.out i' u v g h1 h2
            · obtain rfl : i' = i := by omega
              rw [hu] at h1
              rw [hv] at h2
              cases h1
              cases h2
              exact heq
          apply p_merge (fun W2 => Below wr.heap.size wr W2)
          · intro K2 HK2
            have ed : Below wr.heap.size wr wr.drew := (Below.refl _ _).drew
            refine wp_region_held (S := fun w' => Below wr.heap.size wr w') (by kernel_rfl) ?_
            have hS0 : (fun w' => Below wr.heap.size wr w') wr.drew := ed
            refine heldTake (i := 0) 17 (v := .slice (some ⟨b, off, none⟩) N cx) rfl rfl (by kernel_rfl) (by kernel_rfl) (by kernel_rfl) (fun _ _ _ h => h) (Or.inl ⟨by rfl, fun _ _ => by kernel_rfl⟩) hS0 ?_
            simp only [Act.put, List.setIfInBounds_toArray, List.set_cons_zero, List.set_cons_succ]
            refine heldTake (i := 1) 18 (v := .int .i64 (i : Int)) rfl rfl (by kernel_rfl) (by kernel_rfl) (by kernel_rfl) (fun _ _ _ h => h) (Or.inl ⟨by rfl, fun _ _ => by kernel_rfl⟩) hS0 ?_
            simp only [Act.put, List.setIfInBounds_toArray, List.set_cons_zero, List.set_cons_succ]
            refine heldTake (i := 2) 19 (v := .pointer (some ⟨b, off + 8 * i, none⟩)) rfl rfl (by kernel_rfl) (by kernel_rfl) (by kernel_rfl) (fun _ _ _ h => h) (yieldIndexV (by rfl) (.tmp 17) (.tmp 18) rfl b off N cx i (by omega) rfl rfl) hS0 ?_
            simp only [Act.put, List.setIfInBounds_toArray, List.set_cons_zero, List.set_cons_succ]
            refine heldTake (i := 3) 20 (v := .agg #[.int .i64 us, .int .i64 ur, .int .i64 un, .int .i64 uk, .int .i64 uc, .int .i64 uq, .int .i64 um, .int .i64 ux]) rfl rfl (by kernel_rfl) (by kernel_rfl) (by kernel_rfl) (fun _ _ _ h => h) (yieldVm (by rfl) (.tmp 19) rfl b (off + 8 * i) rfl ⟨us, ⟨ur, un⟩, ⟨uk, uc, uq, um, ux⟩⟩ (fun w' hw' => pRange hw' ltc ru)) hS0 ?_
            simp only [Act.put, List.setIfInBounds_toArray, List.set_cons_zero, List.set_cons_succ]
            refine heldTake (i := 4) 21 (v := .slice (some ⟨b2, off2, none⟩) N cy) rfl rfl (by kernel_rfl) (by kernel_rfl) (by kernel_rfl) (fun _ _ _ h => h) (Or.inl ⟨by rfl, fun _ _ => by kernel_rfl⟩) hS0 ?_
            simp only [Act.put, List.setIfInBounds_toArray, List.set_cons_zero, List.set_cons_succ]
            refine heldTake (i := 5) 22 (v := .int .i64 (i : Int)) rfl rfl (by kernel_rfl) (by kernel_rfl) (by kernel_rfl) (fun _ _ _ h => h) (Or.inl ⟨by rfl, fun _ _ => by kernel_rfl⟩) hS0 ?_
            simp only [Act.put, List.setIfInBounds_toArray, List.set_cons_zero, List.set_cons_succ]
            refine heldTake (i := 6) 23 (v := .pointer (some ⟨b2, off2 + 8 * i, none⟩)) rfl rfl (by kernel_rfl) (by kernel_rfl) (by kernel_rfl) (fun _ _ _ h => h) (yieldIndexV (by rfl) (.tmp 21) (.tmp 22) rfl b2 off2 N cy i (by omega) rfl rfl) hS0 ?_
            simp only [Act.put, List.setIfInBounds_toArray, List.set_cons_zero, List.set_cons_succ]
            refine heldTake (i := 7) 24 (v := .agg #[.int .i64 xs, .int .i64 xr, .int .i64 xn, .int .i64 xk, .int .i64 xc, .int .i64 xq, .int .i64 xm, .int .i64 xx]) rfl rfl (by kernel_rfl) (by kernel_rfl) (by kernel_rfl) (fun _ _ _ h => h) (yieldVm (by rfl) (.tmp 23) rfl b2 (off2 + 8 * i) rfl ⟨xs, ⟨xr, xn⟩, ⟨xk, xc, xq, xm, xx⟩⟩ (fun w' hw' => pRange hw' ltc2 rx)) hS0 ?_
            simp only [Act.put, List.setIfInBounds_toArray, List.set_cons_zero, List.set_cons_succ]
            refine heldTake (i := 8) 25 (v := .bool false) rfl rfl (by kernel_rfl) (by kernel_rfl) (by kernel_rfl) (fun _ _ _ h => h) (yieldNeV (by rfl) (.tmp 20) (.tmp 24) rfl ⟨us, ⟨ur, un⟩, ⟨uk, uc, uq, um, ux⟩⟩ ⟨xs, ⟨xr, xn⟩, ⟨xk, xc, xq, xm, xx⟩⟩ rfl rfl true (decide_eq_true heq)) hS0 ?_
            simp only [Act.put, List.setIfInBounds_toArray, List.set_cons_zero, List.set_cons_succ]
            exact wpAnyH_done (by kernel_rfl) (HK2.out _ ed) _
          intro W2 hW2
          have HB2 : Hid (Below w.heap.size w W2) := hbel.trans (hW2.mono hbel.size)
          clear hW2 hbel rx ru
          go_wp2
          go_roundw
          case rel => exact ⟨i + 1, by omega, by go_num, HG.out, HB2.out⟩
          case measure => simp [intOf]; omega
        · have HE : Hid (decide (l = m) = false) := decide_eq_false (fun g => heq (by rw [g] at hu; rw [hv] at hu; exact (Option.some.inj hu).symm))
          apply p_merge (fun W2 => Below wr.heap.size wr W2)
          · intro K2 HK2
            have ed : Below wr.heap.size wr wr.drew := (Below.refl _ _).drew
            refine wp_region_held (S := fun w' => Below wr.heap.size wr w') (by kernel_rfl) ?_
            have hS0 : (fun w' => Below wr.heap.size wr w') wr.drew := ed
            refine heldTake (i := 0) 17 (v := .slice (some ⟨b, off, none⟩) N cx) rfl rfl (by kernel_rfl) (by kernel_rfl) (by kernel_rfl) (fun _ _ _ h => h) (Or.inl ⟨by rfl, fun _ _ => by kernel_rfl⟩) hS0 ?_
            simp only [Act.put, List.setIfInBounds_toArray, List.set_cons_zero, List.set_cons_succ]
            refine heldTake (i := 1) 18 (v := .int .i64 (i : Int)) rfl rfl (by kernel_rfl) (by kernel_rfl) (by kernel_rfl) (fun _ _ _ h => h) (Or.inl ⟨by rfl, fun _ _ => by kernel_rfl⟩) hS0 ?_
            simp only [Act.put, List.setIfInBounds_toArray, List.set_cons_zero, List.set_cons_succ]
            refine heldTake (i := 2) 19 (v := .pointer (some ⟨b, off + 8 * i, none⟩)) rfl rfl (by kernel_rfl) (by kernel_rfl) (by kernel_rfl) (fun _ _ _ h => h) (yieldIndexV (by rfl) (.tmp 17) (.tmp 18) rfl b off N cx i (by omega) rfl rfl) hS0 ?_
            simp only [Act.put, List.setIfInBounds_toArray, List.set_cons_zero, List.set_cons_succ]
            refine heldTake (i := 3) 20 (v := .agg #[.int .i64 us, .int .i64 ur, .int .i64 un, .int .i64 uk, .int .i64 uc, .int .i64 uq, .int .i64 um, .int .i64 ux]) rfl rfl (by kernel_rfl) (by kernel_rfl) (by kernel_rfl) (fun _ _ _ h => h) (yieldVm (by rfl) (.tmp 19) rfl b (off + 8 * i) rfl ⟨us, ⟨ur, un⟩, ⟨uk, uc, uq, um, ux⟩⟩ (fun w' hw' => pRange hw' ltc ru)) hS0 ?_
            simp only [Act.put, List.setIfInBounds_toArray, List.set_cons_zero, List.set_cons_succ]
            refine heldTake (i := 4) 21 (v := .slice (some ⟨b2, off2, none⟩) N cy) rfl rfl (by kernel_rfl) (by kernel_rfl) (by kernel_rfl) (fun _ _ _ h => h) (Or.inl ⟨by rfl, fun _ _ => by kernel_rfl⟩) hS0 ?_
            simp only [Act.put, List.setIfInBounds_toArray, List.set_cons_zero, List.set_cons_succ]
            refine heldTake (i := 5) 22 (v := .int .i64 (i : Int)) rfl rfl (by kernel_rfl) (by kernel_rfl) (by kernel_rfl) (fun _ _ _ h => h) (Or.inl ⟨by rfl, fun _ _ => by kernel_rfl⟩) hS0 ?_
            simp only [Act.put, List.setIfInBounds_toArray, List.set_cons_zero, List.set_cons_succ]
            refine heldTake (i := 6) 23 (v := .pointer (some ⟨b2, off2 + 8 * i, none⟩)) rfl rfl (by kernel_rfl) (by kernel_rfl) (by kernel_rfl) (fun _ _ _ h => h) (yieldIndexV (by rfl) (.tmp 21) (.tmp 22) rfl b2 off2 N cy i (by omega) rfl rfl) hS0 ?_
            simp only [Act.put, List.setIfInBounds_toArray, List.set_cons_zero, List.set_cons_succ]
            refine heldTake (i := 7) 24 (v := .agg #[.int .i64 xs, .int .i64 xr, .int .i64 xn, .int .i64 xk, .int .i64 xc, .int .i64 xq, .int .i64 xm, .int .i64 xx]) rfl rfl (by kernel_rfl) (by kernel_rfl) (by kernel_rfl) (fun _ _ _ h => h) (yieldVm (by rfl) (.tmp 23) rfl b2 (off2 + 8 * i) rfl ⟨xs, ⟨xr, xn⟩, ⟨xk, xc, xq, xm, xx⟩⟩ (fun w' hw' => pRange hw' ltc2 rx)) hS0 ?_
            simp only [Act.put, List.setIfInBounds_toArray, List.set_cons_zero, List.set_cons_succ]
            refine heldTake (i := 8) 25 (v := .bool true) rfl rfl (by kernel_rfl) (by kernel_rfl) (by kernel_rfl) (fun _ _ _ h => h) (yieldNeV (by rfl) (.tmp 20) (.tmp 24) rfl ⟨us, ⟨ur, un⟩, ⟨uk, uc, uq, um, ux⟩⟩ ⟨xs, ⟨xr, xn⟩, ⟨xk, xc, xq, xm, xx⟩⟩ rfl rfl false (decide_eq_false heq)) hS0 ?_
            simp only [Act.put, List.setIfInBounds_toArray, List.set_cons_zero, List.set_cons_succ]
            exact wpAnyH_done (by kernel_rfl) (HK2.out _ ed) _
          intro W2 hW2
          have HB2 : Hid (Below w.heap.size w W2) := hbel.trans (hW2.mono hbel.size)
          clear hW2 hbel rx ru
          go_wp2
          go_ret
          rw [HE.out]
          exact ⟨rfl, HB2.out⟩
      · have HE : Hid (decide (l = m) = true) := decide_eq_true (agree_all HN.out HM.out (fun i' u v hi' => HAG.out i' u v (by omega)))
        go_wp2
        go_ret
        rw [HE.out]
        exact ⟨rfl, hbel⟩
  · have HE : Hid (decide (l = m) = false) := decide_eq_false (fun g => hNM (by rw [← HN.out, ← HM.out, g]))
    go_enter Tryd.func37, Tryd.ntmps37
    go_wp2
    go_ret
    rw [HE.out]
    exact ⟨rfl, Below.refl _ _⟩
end Go.Proofs.YthmlikljeoamgaaDoor
/-
  Rows that hold slices of votes, as they grow. No function of the program is named here.
-/
namespace Go.Proofs.YthmlikljeoamgaaDoor
open Go.RowKit
set_option linter.unusedVariables false

/-- one element more behind a row of the call's own -/
theorem run_append_one {P : Program} (w : World) (base t ty e k bs : Nat) (z : Value) (ht : P.underlying t = some (.slice e)) (hinfo : (P.info? e).map (fun i => (i.zero, i.size, i.bytes)) = some (some z, k, bs)) (hzk : z.cells.size = k) (hk : 0 < k)
    (v : Value) (n : Nat) (us : List Value) (hown : w.ownsRow base e k v n us) (g : Nat) (cs : List Value) (hcl : cs.length = k) (hc : w.rangeAt g 0 cs) (h1 : ∀ u ∈ cs, u.oneCell' = true)
    (hlen : n ≤ 5864062014634) (hfit : (n + 1) * bs ≤ 140737488355328) (hbase : base ≤ w.heap.size) :
    ∃ v' w', (Builtin.append_ #[t, t] ty #[v, .slice (some ⟨g, 0, none⟩) 1 1]).run P w = .ok v' w' ∧ w'.ownsRow base e k v' (n + 1) (us ++ cs) ∧ w.grownBy w' v.ownBlock := by
  obtain ⟨i, hi, hz, hsz, hby⟩ := info_parts hinfo
  obtain ⟨v', w', hr, ho, hg, _⟩ := run_append_own (P := P) w base t ty e i z k bs ht hi hz hsz hby hzk hk v n _ hown ⟨g, 0, none⟩ 1 1 cs (by omega)
    (fun j u hj => by
      have hadd : (⟨g, 0, none⟩ : Addr).add j = ⟨g, 0 + j, none⟩ := by unfold Addr.add; split <;> simp_all
      rw [hadd]
      exact hc j u hj)
    h1 (by unfold maxLen; omega) hfit hbase
  exact ⟨v', w', hr, ho, hg⟩
theorem wpList_append_one {P : Program} (w : World) {ops : Array Oper} {rest : List Oper} {o : Oper} {a : Act} {Q : Exit → Act → World → Prop} (hgd : o.guard = none) (s y : Operand) (t : TypeId)
    (ho : o.op = .call { callee := .builtin .append, args := #[s, y], argTypes := #[t, t] })
    (base e k bs : Nat) (z : Value) (ht : P.underlying t = some (.slice e)) (hinfo : (P.info? e).map (fun i => (i.zero, i.size, i.bytes)) = some (some z, k, bs)) (hzk : z.cells.size = k) (hk : 0 < k)
    (v : Value) (n : Nat) (us : List Value) (g : Nat) (cs : List Value) (hs : a.eval s = v) (hx : a.eval y = .slice (some ⟨g, 0, none⟩) 1 1) (hown : w.ownsRow base e k v n us) (hcl : cs.length = k) (hc : w.rangeAt g 0 cs) (h1 : ∀ u ∈ cs, u.oneCell' = true)
    (hlen : n ≤ 5864062014634) (hfit : (n + 1) * bs ≤ 140737488355328) (hbase : base ≤ w.heap.size)
    (h : ∀ v' w', w'.ownsRow base e k v' (n + 1) (us ++ cs) → w.grownBy w' v.ownBlock → wpList P ops Q rest (a.put o.dst v') w') : wpList P ops Q (o :: rest) a w := by
  refine wpList_plain hgd fun K hK => ?_
  obtain ⟨v', w', hrun, r1, r2⟩ := run_append_one (P := P) w base t o.type e k bs z ht hinfo hzk hk v n us hown g cs hcl hc h1 hlen hfit hbase
  unfold Oper.wp execOp
  simp only [ho, resolve, invoke, builtin, Sem.run_bind, Sem.run_pure, Result.andThen_ok, List.map_toArray, List.map_cons, List.map_nil, hs, hx, hrun]
  exact hK _ _ (h v' w' r1 r2)
/-- a row of votes of its own -/
def Ov (w : World) (y : Value) (l : List Vt) : Prop := w.ownsRow 0 36 8 y l.length (vtL l)
theorem Ov.of {w : World} {base : Nat} {y : Value} {l : List Vt} (h : w.ownsRow base 36 8 y l.length (vtL l)) : Ov w y l := by
  refine ⟨h.1, ?_⟩
  rcases h.2 with h2 | ⟨g, cap, cur, hv, hb, hg, hr⟩
  · exact .inl h2
  · exact .inr ⟨g, cap, cur, hv, Nat.zero_le _, hg, hr⟩
theorem Ov.below {w w' : World} {y : Value} {l : List Vt} (h : Ov w y l) (hb : Below w.heap.size w w') : Ov w' y l := ownsV_keep h (fun k hk => hb.block k (h.lt k hk).2)
/-- a row of other elements is apart -/
theorem Ov.grown {w w' : World} {y : Value} {l : List Vt} (h : Ov w y l) {b e k m : Nat} {u : Value} {ys : List Value} (hu : w.ownsRow b e k u m ys) (he : e ≠ 36) (hg : w.grownBy w' u.ownBlock) : Ov w' y l := by
  refine World.ownsRow.kept h hg ?_
  rcases h.2 with ⟨rfl, _⟩ | ⟨g, cap, cur, rfl, _, hgg, _⟩
  · exact .inl rfl
  · rcases hu.2 with ⟨rfl, _⟩ | ⟨g', cap', cur', rfl, _, hg', _⟩
    · exact .inr (by simp [Value.ownBlock])
    · right
      simp only [Value.ownBlock, ne_eq, Option.some.injEq]
      rintro rfl
      rw [hgg] at hg'
      simp only [Option.some.injEq, Obj.cells.injEq] at hg'
      exact he hg'.2.1.symm
/-- a row of other elements is set: votes stay -/
theorem Ov.otherRow {w : World} {y : Value} {l : List Vt} (h : Ov w y l) {g : Nat} {cs : Array Value} {t : TypeId} {fr : Nat × Nat} (hg : w.heap[g]? = some (.cells cs t fr)) (ht : t ≠ 36) (cs' : Array Value) : Ov (w.setRow g cs') y l := by
  refine ownsV_keep h (fun k hk => setRow_other _ _ _ _ (fun e => ?_))
  rcases h.2 with ⟨h1, _⟩ | ⟨q, cap, cur, h1, _, h2, _⟩
  · rw [h1] at hk; cases hk
  · rw [h1] at hk
    have hk' : q = k := by simpa [Value.ownBlock] using hk
    rw [hk', e, hg] at h2
    simp only [Option.some.injEq, Obj.cells.injEq] at h2
    exact ht h2.2.1
theorem one_range {w : World} {g : Nat} {cs : List Value} {t : TypeId} {fr : Nat × Nat} (h : w.heap[g]? = some (.cells cs.toArray t fr)) : w.rangeAt g 0 cs := fun j u hj => by
  rw [cell_of_row _ _ (0 + j) _ _ _ h]
  simpa using hj
end Go.Proofs.YthmlikljeoamgaaDoor
