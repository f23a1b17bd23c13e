/-
  The walks of the program's own tapes: may one be, and the first bytes of one.
-/
import Derived.Test.YthmlikljeoamgaaStabTp
namespace Go.Proofs.Ythmlikljeoamgaa
open Go.RowKit
set_option linter.unusedVariables false

set_option maxHeartbeats 1000000 in
set_option maxRecDepth 100000 in
theorem mayT_any (x : Value) (d : List Int) (s : Int) (w : World) (h : Sl w x d) :
    Calls Try.prog 12 #[.agg (tpA x s)] w fun e w' => e = .returned (.bool (decide (TapB d s))) ∧ Below w.heap.size w w' := by
  have hlen := h.len
  obtain ⟨ax, cp, rfl⟩ := h.shapeT
  obtain ⟨M, hM⟩ : ∃ M, d.length = M := ⟨_, rfl⟩
  have HM : Hid (d.length = M) := hM
  rw [hM] at hlen ⊢
  clear hM h
  simp only [tpA]
  have bb : Below w.heap.size w (w.alloc (.cells #[.slice ax M cp, .int .i64 s] 24)) := (Below.refl _ _).alloc (Nat.le_refl _) _
  have rr := heap_alloc_new w (.cells #[.slice ax M cp, .int .i64 s] 24)
  generalize hW : w.alloc (.cells #[.slice ax M cp, .int .i64 s] 24) = W0 at bb rr
  have c0 : W0.cell? ⟨w.heap.size, 0, none⟩ = some (.slice ax M cp) := cell_of_row _ _ 0 _ _ _ rr
  have c1 : W0.cell? ⟨w.heap.size, 1, none⟩ = some (.int .i64 s) := cell_of_row _ _ 1 _ _ _ rr
  clear rr
  have HT : Hid (TapB d s ↔ (M ≤ 100000 ∧ 0 ≤ s ∧ s ≤ (M : Int))) := by
    unfold Hid TapB
    rw [HM.out]
  by_cases h1 : M ≤ 100000
  · have h1i : (M : Int) ≤ 100000 := by omega
    by_cases h2 : 0 ≤ s
    · by_cases h3 : s ≤ (M : Int)
      · go_enter Try.func12, Try.ntmps12
        go_wp2
        go_ret
        exact ⟨ret_bool (by rw [decide_eq_true (HT.out.2 ⟨h1, h2, h3⟩)]), bb⟩
      · go_enter Try.func12, Try.ntmps12
        go_wp2
        go_ret
        exact ⟨ret_bool (by rw [decide_eq_false (fun g => absurd (HT.out.1 g).2.2 (by omega))]), bb⟩
    · go_enter Try.func12, Try.ntmps12
      go_wp2
      go_ret
      exact ⟨ret_bool (by rw [decide_eq_false (fun g => absurd (HT.out.1 g).2.1 (by omega))]), bb⟩
  · have h1i : ¬ (M : Int) ≤ 100000 := by omega
    go_enter Try.func12, Try.ntmps12
    go_wp2
    go_ret
    exact ⟨ret_bool (by rw [decide_eq_false (fun g => absurd (HT.out.1 g).1 (by omega))]), bb⟩

set_option maxHeartbeats 1000000 in
set_option maxRecDepth 100000 in
theorem firstOf_any (x : Value) (d : List Int) (s : Int) (n : Nat) (w : World) (h : Sl w x d) (hn : n ≤ d.length) :
    Calls Try.prog 13 #[.agg (tpA x s), .int .i64 (n : Int)] w fun e w' => ∃ y, e = .returned (.agg (tpA y (n : Int))) ∧ w'.ownsRow w.heap.size 5 1 y n ((d.take n).map (Value.int .u8)) ∧ Below w.heap.size w w' := by
  have hlen := h.len
  obtain ⟨ax, cp, rfl⟩ := h.shapeT
  obtain ⟨M, hM⟩ : ∃ M, d.length = M := ⟨_, rfl⟩
  have HM : Hid (d.length = M) := hM
  have HN : Hid (n ≤ d.length) := hn
  obtain ⟨t, ht⟩ : ∃ t, t = d.take n := ⟨_, rfl⟩
  have HT : Hid (t = d.take n) := ht
  rw [← ht]
  clear ht
  rw [hM] at h hlen hn ⊢
  clear hM
  simp only [tpA]
  have r0 := heap_alloc2_old w (.cells #[.slice ax M cp, .int .i64 s] 24) (.cells #[.slice none 0 0, .int .i64 0] 24)
  have r1 := heap_alloc2_new w (.cells #[.slice ax M cp, .int .i64 s] 24) (.cells #[.slice none 0 0, .int .i64 0] 24)
  have bb : Below w.heap.size w ((w.alloc (.cells #[.slice ax M cp, .int .i64 s] 24)).alloc (.cells #[.slice none 0 0, .int .i64 0] 24)) := ((Below.refl _ _).alloc (Nat.le_refl _) _).alloc (by simp) _
  have z0 : ((w.alloc (.cells #[.slice ax M cp, .int .i64 s] 24)).alloc (.cells #[.slice none 0 0, .int .i64 0] 24)).heap.size = w.heap.size + 2 := by simp
  generalize hW : (w.alloc (.cells #[.slice ax M cp, .int .i64 s] 24)).alloc (.cells #[.slice none 0 0, .int .i64 0] 24) = W0 at r0 r1 bb z0
  have s0 := h.below bb
  have Z0 : Hid (W0.heap.size = w.heap.size + 2) := z0
  have y0 : w.heap.size + 1 < W0.heap.size := by omega
  have y1 : w.heap.size < W0.heap.size := by omega
  clear z0
  go_enter Try.func13, Try.ntmps13
  go_wp2_with ((with_reducible (refine tpLook ?_)); at_make; refine wpList_make_sl _ rfl _ _ 22 rfl W0.heap.size 5 Try.underlying22 info5 n rfl rfl (by omega) (Nat.le_refl _) ?_)
  clear hW
  intro w1 o1 g1
  have b1 : Below W0.heap.size W0 w1 := (Below.refl _ _).grown g1 (Nat.le_refl _) (fun k hk => by cases hk)
  have q0 := (b1.block w.heap.size y1).trans r0
  have q1 := (b1.block (w.heap.size + 1) y0).trans r1
  have s1 := s0.below b1
  obtain ⟨xs, o1⟩ := o1.out
  have HO : Hid (w1.ownsRow W0.heap.size 5 1 (.slice (some ⟨W0.heap.size, 0, none⟩) n n) n xs) := o1
  have d1 := bb.trans (b1.mono bb.size)
  clear o1 r0 r1 g1
  have c0 : w1.cell? ⟨w.heap.size, 0, none⟩ = some (.slice ax M cp) := cell_of_row _ _ 0 _ _ _ q0
  go_wp2_with ((with_reducible (refine tpLook ?_)); refine wpList_copy_sl _ rfl _ _ 22 22 rfl W0.heap.size 5 Try.underlying22 byte1 W0.heap.size n _ rfl HO.out _ rfl d HN.out s1 t HT.out ?_)
  intro w2 o2 b2
  have HO2 : Hid (w2.ownsRow W0.heap.size 5 1 (.slice (some ⟨W0.heap.size, 0, none⟩) n n) n (t.map (Value.int .u8))) := o2
  have e2 := b2.mono (show w.heap.size + 2 ≤ W0.heap.size by have := Z0.out; omega)
  have p1 := (e2.block (w.heap.size + 1) (by omega)).trans q1
  have d2 := d1.trans (e2.mono (by omega))
  obtain ⟨g, hg⟩ : ∃ g, W0.heap.size = g := ⟨_, rfl⟩
  have HG : Hid (W0.heap.size = g) := hg
  have z0 : g = w.heap.size + 2 := hg.symm.trans Z0.out
  have Z1 : Hid (g = w.heap.size + 2) := z0
  rw [hg] at HO2 ⊢
  clear o2 HO q0 q1 c0 hg z0 y0 y1 Z0
  have on := tp_one (some ⟨g, 0, none⟩) n n (n : Int)
  go_wp2_with ((with_reducible (refine tpLook ?_)); refine wpList_store_row rfl 24 (.tmp 4) (.tmp 14) rfl (w.heap.size + 1) #[.slice (some ⟨g, 0, none⟩) n n, .int .i64 (n : Int)] rfl rfl 24 _ p1 tpSize rfl on ?_)
  have q9 := setRow_heap w2 (w.heap.size + 1) _ (#[.slice (some ⟨g, 0, none⟩) n n, .int .i64 (n : Int)]) 24 _ p1
  have d9 := tBelow_row d2 (show w.heap.size ≤ w.heap.size + 1 by omega) (#[.slice (some ⟨g, 0, none⟩) n n, .int .i64 (n : Int)])
  have o9 : (w2.setRow (w.heap.size + 1) #[.slice (some ⟨g, 0, none⟩) n n, .int .i64 (n : Int)]).ownsRow g 5 1 (.slice (some ⟨g, 0, none⟩) n n) n (t.map (Value.int .u8)) := tOwns_keep HO2.out (fun k hk => setRow_other _ _ _ _ (by have := (HO2.out.lt k hk).1; have := Z1.out; omega))
  refine bodyPost_ret (tRow1 rfl _ _ (w.heap.size + 1) 24 _ (0, 0) _ rfl q9 Try.underlying24 rfl tpSize) rfl ?_
  exact ⟨_, rfl, tOwns_base o9 (by have := Z1.out; omega), d9⟩
end Go.Proofs.Ythmlikljeoamgaa
