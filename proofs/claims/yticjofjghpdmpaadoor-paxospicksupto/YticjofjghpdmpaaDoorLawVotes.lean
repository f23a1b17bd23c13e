/-
  The law's own helpers for votes: a copy, and whether two are the same.
-/
import Derived.Test.YticjofjghpdmpaaDoorPaxEq
namespace Go.Proofs.YticjofjghpdmpaaDoor
open Go.RowKit
set_option linter.unusedVariables false

theorem votes_any (x : Value) (l : List Vt) (w : World) (h : Sv w x l) :
    Calls Tryd.prog 28 #[x] w fun e w' => ∃ x', e = .returned x' ∧ w'.ownsRow w.heap.size 39 8 x' l.length (vtL l) ∧ Below w.heap.size w w' := by
  have hl := h.len
  go_enter Tryd.func28, Tryd.ntmps28
  go_wp2_with ((with_reducible (refine pxLook ?_)); at_builtin; refine wpList_append_vt _ rfl _ _ 24 rfl w.heap.size 39 zVt Tryd.underlying24 infoVt rfl _ _ rfl rfl [] l (World.ownsRow_nil _ _ _ _) h (by simp; omega) (Nat.le_refl _) ?_)
  intro v' w' ho hg
  go_wp2
  go_ret
  exact ⟨v', rfl, by simpa using ho, (Below.refl _ _).grown hg (Nat.le_refl _) (by simp [Value.ownBlock])⟩
theorem agree_all {l m : List Vt} {n : Nat} (hl : l.length = n) (hm : m.length = n) (h : ∀ (i : Nat) (u v : Vt), i < n → l[i]? = some u → m[i]? = some v → u = v) : l = m := by
  apply List.ext_getElem?
  intro i
  rcases Nat.lt_or_ge i n with g | g
  · have e1 := List.getElem?_eq_getElem (show i < l.length by omega)
    have e2 := List.getElem?_eq_getElem (show i < m.length by omega)
    rw [e1, e2, h i _ _ g e1 e2]
  · rw [List.getElem?_eq_none (by omega), List.getElem?_eq_none (by omega)]

set_option maxHeartbeats 2000000 in
set_option maxRecDepth 100000 in
theorem sameVotes_any (x y : Value) (l m : List Vt) (w : World) (hx : Sv w x l) (hy : Sv w y m) :
    Calls Tryd.prog 15 #[x, y] w fun e w' => e = .returned (.bool (decide (l = m))) ∧ Below w.heap.size w w' := by
  have hlx := hx.len
  have hly := hy.len
  obtain ⟨ax, cx, rfl⟩ := hx.shape
  obtain ⟨ay, cy, rfl⟩ := hy.shape
  obtain ⟨N, hN⟩ : ∃ N, l.length = N := ⟨_, rfl⟩
  obtain ⟨M, hM⟩ : ∃ M, m.length = M := ⟨_, rfl⟩
  have HN : Hid (l.length = N) := hN
  have HM : Hid (m.length = M) := hM
  rw [hN] at hx hlx ⊢
  rw [hM] at hy hly ⊢
  clear hN hM
  by_cases hNM : (N : Int) = (M : Int)
  · obtain rfl : N = M := by omega
    go_enter Tryd.func15, Tryd.ntmps15
    go_wp2_with fail
    go_loopw [5] (fun iv wr => ∃ i : Nat, i ≤ N ∧ iv = .int .i64 (i : Int) ∧ (∀ (i' : Nat) (u v : Vt), i' < i → l[i']? = some u → m[i']? = some v → u = v) ∧ Below w.heap.size w wr) (fun iv _ => ((N : Int) - intOf iv).toNat)
    case atStart => exact ⟨0, by omega, rfl, fun i' u v hi' => by omega, Below.refl _ _⟩
    case round =>
      obtain ⟨i, hi, rfl, hag, hbel⟩ := hrel
      have HAG : Hid (∀ (i' : Nat) (u v : Vt), i' < i → l[i']? = some u → m[i']? = some v → u = v) := hag
      clear hag
      by_cases hin : i < N
      · have hini : (i : Int) < (N : Int) := by omega
        obtain ⟨u, hu⟩ : ∃ u, l[i]? = some u := ⟨_, List.getElem?_eq_getElem (by have := HN.out; omega)⟩
        obtain ⟨v, hv⟩ : ∃ v, m[i]? = some v := ⟨_, List.getElem?_eq_getElem (by have := HM.out; omega)⟩
        obtain ⟨b, off, rfl, ltb, hru⟩ := hx.spot i u hu
        obtain ⟨b2, off2, rfl, ltb2, hrv⟩ := hy.spot i v hv
        obtain ⟨us, ⟨ur, un⟩, ⟨uk, uc, uq, um, ux⟩⟩ := u
        obtain ⟨xs, ⟨xr, xn⟩, ⟨xk, xc, xq, xm, xx⟩⟩ := v
        simp only [vtC] at hru hrv
        have ru : wr.rangeAt b (off + 8 * i) [.int .i64 us, .int .i64 ur, .int .i64 un, .int .i64 uk, .int .i64 uc, .int .i64 uq, .int .i64 um, .int .i64 ux] := pRange hbel ltb hru
        have rx : wr.rangeAt b2 (off2 + 8 * i) [.int .i64 xs, .int .i64 xr, .int .i64 xn, .int .i64 xk, .int .i64 xc, .int .i64 xq, .int .i64 xm, .int .i64 xx] := pRange hbel ltb2 hrv
        have ltc := Nat.lt_of_lt_of_le ltb hbel.size
        have ltc2 := Nat.lt_of_lt_of_le ltb2 hbel.size
        go_wp2_with fail
        by_cases heq : (⟨us, ⟨ur, un⟩, ⟨uk, uc, uq, um, ux⟩⟩ : Vt) = ⟨xs, ⟨xr, xn⟩, ⟨xk, xc, xq, xm, xx⟩⟩
        · have HG : Hid (∀ (i' : Nat) (u v : Vt), i' < i + 1 → l[i']? = some u → m[i']? = some v → u = v) := by
            intro i' u v hi' h1 h2
            rcases Nat.lt_or_ge i' i with g | g
            · exact HAG.out i' u v g h1 h2
            · obtain rfl : i' = i := by omega
              rw [hu] at h1
              rw [hv] at h2
              cases h1
              cases h2
              exact heq
          apply p_merge (fun W2 => Below wr.heap.size wr W2)
          · intro K2 HK2
            have ed : Below wr.heap.size wr wr.drew := (Below.refl _ _).drew
            refine wp_region_held (S := fun w' => Below wr.heap.size wr w') (by kernel_rfl) ?_
            have hS0 : (fun w' => Below wr.heap.size wr w') wr.drew := ed
            refine heldTake (i := 0) 17 (v := .slice (some ⟨b, off, none⟩) N cx) rfl rfl (by kernel_rfl) (by kernel_rfl) (by kernel_rfl) (fun _ _ _ h => h) (Or.inl ⟨by rfl, fun _ _ => by kernel_rfl⟩) hS0 ?_
            simp only [Act.put, List.setIfInBounds_toArray, List.set_cons_zero, List.set_cons_succ]
            refine heldTake (i := 1) 18 (v := .int .i64 (i : Int)) rfl rfl (by kernel_rfl) (by kernel_rfl) (by kernel_rfl) (fun _ _ _ h => h) (Or.inl ⟨by rfl, fun _ _ => by kernel_rfl⟩) hS0 ?_
            simp only [Act.put, List.setIfInBounds_toArray, List.set_cons_zero, List.set_cons_succ]
            refine heldTake (i := 2) 19 (v := .pointer (some ⟨b, off + 8 * i, none⟩)) rfl rfl (by kernel_rfl) (by kernel_rfl) (by kernel_rfl) (fun _ _ _ h => h) (yieldIndexV (by rfl) (.tmp 17) (.tmp 18) rfl b off N cx i (by omega) rfl rfl) hS0 ?_
            simp only [Act.put, List.setIfInBounds_toArray, List.set_cons_zero, List.set_cons_succ]
            refine heldTake (i := 3) 20 (v := .agg #[.int .i64 us, .int .i64 ur, .int .i64 un, .int .i64 uk, .int .i64 uc, .int .i64 uq, .int .i64 um, .int .i64 ux]) rfl rfl (by kernel_rfl) (by kernel_rfl) (by kernel_rfl) (fun _ _ _ h => h) (yieldVm (by rfl) (.tmp 19) rfl b (off + 8 * i) rfl ⟨us, ⟨ur, un⟩, ⟨uk, uc, uq, um, ux⟩⟩ (fun w' hw' => pRange hw' ltc ru)) hS0 ?_
            simp only [Act.put, List.setIfInBounds_toArray, List.set_cons_zero, List.set_cons_succ]
            refine heldTake (i := 4) 21 (v := .slice (some ⟨b2, off2, none⟩) N cy) rfl rfl (by kernel_rfl) (by kernel_rfl) (by kernel_rfl) (fun _ _ _ h => h) (Or.inl ⟨by rfl, fun _ _ => by kernel_rfl⟩) hS0 ?_
            simp only [Act.put, List.setIfInBounds_toArray, List.set_cons_zero, List.set_cons_succ]
            refine heldTake (i := 5) 22 (v := .int .i64 (i : Int)) rfl rfl (by kernel_rfl) (by kernel_rfl) (by kernel_rfl) (fun _ _ _ h => h) (Or.inl ⟨by rfl, fun _ _ => by kernel_rfl⟩) hS0 ?_
            simp only [Act.put, List.setIfInBounds_toArray, List.set_cons_zero, List.set_cons_succ]
            refine heldTake (i := 6) 23 (v := .pointer (some ⟨b2, off2 + 8 * i, none⟩)) rfl rfl (by kernel_rfl) (by kernel_rfl) (by kernel_rfl) (fun _ _ _ h => h) (yieldIndexV (by rfl) (.tmp 21) (.tmp 22) rfl b2 off2 N cy i (by omega) rfl rfl) hS0 ?_
            simp only [Act.put, List.setIfInBounds_toArray, List.set_cons_zero, List.set_cons_succ]
            refine heldTake (i := 7) 24 (v := .agg #[.int .i64 xs, .int .i64 xr, .int .i64 xn, .int .i64 xk, .int .i64 xc, .int .i64 xq, .int .i64 xm, .int .i64 xx]) rfl rfl (by kernel_rfl) (by kernel_rfl) (by kernel_rfl) (fun _ _ _ h => h) (yieldVm (by rfl) (.tmp 23) rfl b2 (off2 + 8 * i) rfl ⟨xs, ⟨xr, xn⟩, ⟨xk, xc, xq, xm, xx⟩⟩ (fun w' hw' => pRange hw' ltc2 rx)) hS0 ?_
            simp only [Act.put, List.setIfInBounds_toArray, List.set_cons_zero, List.set_cons_succ]
            refine heldTake (i := 8) 25 (v := .bool false) rfl rfl (by kernel_rfl) (by kernel_rfl) (by kernel_rfl) (fun _ _ _ h => h) (yieldNeV (by rfl) (.tmp 20) (.tmp 24) rfl ⟨us, ⟨ur, un⟩, ⟨uk, uc, uq, um, ux⟩⟩ ⟨xs, ⟨xr, xn⟩, ⟨xk, xc, xq, xm, xx⟩⟩ rfl rfl true (decide_eq_true heq)) hS0 ?_
            simp only [Act.put, List.setIfInBounds_toArray, List.set_cons_zero, List.set_cons_succ]
            exact wpAnyH_done (by kernel_rfl) (HK2.out _ ed) _
          intro W2 hW2
          have HB2 : Hid (Below w.heap.size w W2) := hbel.trans (hW2.mono hbel.size)
          clear hW2 hbel rx ru
          go_wp2
          go_roundw
          case rel => exact ⟨i + 1, by omega, by go_num, HG.out, HB2.out⟩
          case measure => simp [intOf]; omega
        · have HE : Hid (decide (l = m) = false) := decide_eq_false (fun g => heq (by rw [g] at hu; rw [hv] at hu; exact (Option.some.inj hu).symm))
          apply p_merge (fun W2 => Below wr.heap.size wr W2)
          · intro K2 HK2
            have ed : Below wr.heap.size wr wr.drew := (Below.refl _ _).drew
            refine wp_region_held (S := fun w' => Below wr.heap.size wr w') (by kernel_rfl) ?_
            have hS0 : (fun w' => Below wr.heap.size wr w') wr.drew := ed
            refine heldTake (i := 0) 17 (v := .slice (some ⟨b, off, none⟩) N cx) rfl rfl (by kernel_rfl) (by kernel_rfl) (by kernel_rfl) (fun _ _ _ h => h) (Or.inl ⟨by rfl, fun _ _ => by kernel_rfl⟩) hS0 ?_
            simp only [Act.put, List.setIfInBounds_toArray, List.set_cons_zero, List.set_cons_succ]
            refine heldTake (i := 1) 18 (v := .int .i64 (i : Int)) rfl rfl (by kernel_rfl) (by kernel_rfl) (by kernel_rfl) (fun _ _ _ h => h) (Or.inl ⟨by rfl, fun _ _ => by kernel_rfl⟩) hS0 ?_
            simp only [Act.put, List.setIfInBounds_toArray, List.set_cons_zero, List.set_cons_succ]
            refine heldTake (i := 2) 19 (v := .pointer (some ⟨b, off + 8 * i, none⟩)) rfl rfl (by kernel_rfl) (by kernel_rfl) (by kernel_rfl) (fun _ _ _ h => h) (yieldIndexV (by rfl) (.tmp 17) (.tmp 18) rfl b off N cx i (by omega) rfl rfl) hS0 ?_
            simp only [Act.put, List.setIfInBounds_toArray, List.set_cons_zero, List.set_cons_succ]
            refine heldTake (i := 3) 20 (v := .agg #[.int .i64 us, .int .i64 ur, .int .i64 un, .int .i64 uk, .int .i64 uc, .int .i64 uq, .int .i64 um, .int .i64 ux]) rfl rfl (by kernel_rfl) (by kernel_rfl) (by kernel_rfl) (fun _ _ _ h => h) (yieldVm (by rfl) (.tmp 19) rfl b (off + 8 * i) rfl ⟨us, ⟨ur, un⟩, ⟨uk, uc, uq, um, ux⟩⟩ (fun w' hw' => pRange hw' ltc ru)) hS0 ?_
            simp only [Act.put, List.setIfInBounds_toArray, List.set_cons_zero, List.set_cons_succ]
            refine heldTake (i := 4) 21 (v := .slice (some ⟨b2, off2, none⟩) N cy) rfl rfl (by kernel_rfl) (by kernel_rfl) (by kernel_rfl) (fun _ _ _ h => h) (Or.inl ⟨by rfl, fun _ _ => by kernel_rfl⟩) hS0 ?_
            simp only [Act.put, List.setIfInBounds_toArray, List.set_cons_zero, List.set_cons_succ]
            refine heldTake (i := 5) 22 (v := .int .i64 (i : Int)) rfl rfl (by kernel_rfl) (by kernel_rfl) (by kernel_rfl) (fun _ _ _ h => h) (Or.inl ⟨by rfl, fun _ _ => by kernel_rfl⟩) hS0 ?_
            simp only [Act.put, List.setIfInBounds_toArray, List.set_cons_zero, List.set_cons_succ]
            refine heldTake (i := 6) 23 (v := .pointer (some ⟨b2, off2 + 8 * i, none⟩)) rfl rfl (by kernel_rfl) (by kernel_rfl) (by kernel_rfl) (fun _ _ _ h => h) (yieldIndexV (by rfl) (.tmp 21) (.tmp 22) rfl b2 off2 N cy i (by omega) rfl rfl) hS0 ?_
            simp only [Act.put, List.setIfInBounds_toArray, List.set_cons_zero, List.set_cons_succ]
            refine heldTake (i := 7) 24 (v := .agg #[.int .i64 xs, .int .i64 xr, .int .i64 xn, .int .i64 xk, .int .i64 xc, .int .i64 xq, .int .i64 xm, .int .i64 xx]) rfl rfl (by kernel_rfl) (by kernel_rfl) (by kernel_rfl) (fun _ _ _ h => h) (yieldVm (by rfl) (.tmp 23) rfl b2 (off2 + 8 * i) rfl ⟨xs, ⟨xr, xn⟩, ⟨xk, xc, xq, xm, xx⟩⟩ (fun w' hw' => pRange hw' ltc2 rx)) hS0 ?_
            simp only [Act.put, List.setIfInBounds_toArray, List.set_cons_zero, List.set_cons_succ]
            refine heldTake (i := 8) 25 (v := .bool true) rfl rfl (by kernel_rfl) (by kernel_rfl) (by kernel_rfl) (fun _ _ _ h => h) (yieldNeV (by rfl) (.tmp 20) (.tmp 24) rfl ⟨us, ⟨ur, un⟩, ⟨uk, uc, uq, um, ux⟩⟩ ⟨xs, ⟨xr, xn⟩, ⟨xk, xc, xq, xm, xx⟩⟩ rfl rfl false (decide_eq_false heq)) hS0 ?_
            simp only [Act.put, List.setIfInBounds_toArray, List.set_cons_zero, List.set_cons_succ]
            exact wpAnyH_done (by kernel_rfl) (HK2.out _ ed) _
          intro W2 hW2
          have HB2 : Hid (Below w.heap.size w W2) := hbel.trans (hW2.mono hbel.size)
          clear hW2 hbel rx ru
          go_wp2
          go_ret
          rw [HE.out]
          exact ⟨rfl, HB2.out⟩
      · have HE : Hid (decide (l = m) = true) := decide_eq_true (agree_all HN.out HM.out (fun i' u v hi' => HAG.out i' u v (by omega)))
        go_wp2
        go_ret
        rw [HE.out]
        exact ⟨rfl, hbel⟩
  · have HE : Hid (decide (l = m) = false) := decide_eq_false (fun g => hNM (by rw [← HN.out, ← HM.out, g]))
    go_enter Tryd.func15, Tryd.ntmps15
    go_wp2
    go_ret
    rw [HE.out]
    exact ⟨rfl, Below.refl _ _⟩
end Go.Proofs.YticjofjghpdmpaaDoor
