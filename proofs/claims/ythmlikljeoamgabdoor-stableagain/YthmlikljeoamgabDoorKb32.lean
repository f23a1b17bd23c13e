/-
  The walk of the program's own look at a record's body.
-/
import Derived.Test.YthmlikljeoamgabDoorKb31
import Derived.Test.YthmlikljeoamgabDoorKb18
import Derived.Test.YthmlikljeoamgabDoorKb22
namespace Go.Proofs.YthmlikljeoamgabDoor
open Go.RowKit
set_option linter.unusedVariables false

set_option maxHeartbeats 2000000 in
set_option maxRecDepth 100000 in
theorem done_any (p : Bal) (x : Value) (l : List Vt) (v : Value) (b : List Int) (w : World) (h : Sv w x l) (hb : Sl w v b) (ht : NTab w) :
    Calls Tryd.prog 37 #[.agg (acA p x), v] w fun e w' => ∃ y, e = .returned (.tuple #[.agg (acA (donA ⟨p, l⟩ b).p y), .int .i64 (donE ⟨p, l⟩ b)]) ∧ Sv w' y (donA ⟨p, l⟩ b).vs ∧ Below w.heap.size w w' := by
  obtain ⟨pr, pn⟩ := p
  have hlen := h.len
  obtain ⟨ax, cp, rfl⟩ := h.shape
  obtain ⟨M, hM⟩ : ∃ M, l.length = M := ⟨_, rfl⟩
  have HM : Hid (l.length = M) := hM
  rw [hM] at h hlen ⊢
  clear hM
  have hbl := hb.len
  have hx := getD_byte hb.byte 0
  have HB0 : Hid (∀ k, 0 < b.length → k = 0 → ∃ bd od, v = .slice (some ⟨bd, od, none⟩) b.length (capOf v) ∧ bd < w.heap.size ∧ w.cell? ⟨bd, od + 0, none⟩ = some (.int .u8 (b.getD k 0))) := by
    intro k hp hk
    subst hk
    obtain ⟨ab, cb, rfl⟩ := hb.shapeT
    obtain ⟨bd, od, rfl, h1, h2⟩ := hb.spotO 0 hp
    exact ⟨bd, od, rfl, h1, h2⟩
  obtain ⟨ab, cb, rfl⟩ := hb.shapeT
  simp only [acA]
  by_cases c9 : b.length = 9
  · obtain ⟨bd, od, hv, hbd, hc⟩ := HB0.out 0 (by omega) rfl
    simp only [Value.slice.injEq] at hv
    obtain ⟨rfl, -, -⟩ := hv
    rw [Nat.add_zero] at hc
    clear HB0
    obtain ⟨a1, c1, r1, s1⟩ := hb.from 1 (by omega)
    have HL9 : Hid (b.length = 9) := c9
    rw [c9] at hb r1 s1 ⊢
    rw [show (9 - 1 : Nat) = 8 from rfl] at s1
    replace r1 : ∀ W, (Instr.slice 23 (.slice (some ⟨bd, od, none⟩) 9 cb) (some (.int .i64 1)) none none).run Tryd.prog W = .ok (.slice a1 8 c1) W := r1
    clear c9
    by_cases c1b : b.getD 0 0 = 1
    · have hdd : donE ⟨⟨pr, pn⟩, l⟩ b = proE ⟨⟨pr, pn⟩, l⟩ (bodyP b) ∧ donA ⟨⟨pr, pn⟩, l⟩ b = ⟨proP ⟨⟨pr, pn⟩, l⟩ (bodyP b), proL ⟨⟨pr, pn⟩, l⟩ (bodyP b)⟩ := ⟨if_pos ⟨HL9.out, c1b⟩, if_pos ⟨HL9.out, c1b⟩⟩
      obtain ⟨⟨qr, qn⟩, hP1⟩ : ∃ P1, proP ⟨⟨pr, pn⟩, l⟩ (bodyP b) = P1 := ⟨_, rfl⟩
      obtain ⟨L1, hL1⟩ : ∃ L1, proL ⟨⟨pr, pn⟩, l⟩ (bodyP b) = L1 := ⟨_, rfl⟩
      obtain ⟨E1, hE1⟩ : ∃ E1, proE ⟨⟨pr, pn⟩, l⟩ (bodyP b) = E1 := ⟨_, rfl⟩
      obtain ⟨K1, hK1⟩ : ∃ K1, L1.length = K1 := ⟨_, rfl⟩
      have HP1 : Hid (proP ⟨⟨pr, pn⟩, l⟩ (bodyP b) = ⟨qr, qn⟩ ∧ proL ⟨⟨pr, pn⟩, l⟩ (bodyP b) = L1 ∧ proE ⟨⟨pr, pn⟩, l⟩ (bodyP b) = E1 ∧ L1.length = K1) := ⟨hP1, hL1, hE1, hK1⟩
      have HD : Hid (donE ⟨⟨pr, pn⟩, l⟩ b = E1 ∧ donA ⟨⟨pr, pn⟩, l⟩ b = ⟨⟨qr, qn⟩, L1⟩) := by rw [hP1, hL1, hE1] at hdd; exact hdd
      rw [c1b] at hc
      clear hdd hP1 hL1 hE1 hK1 c1b hx
      obtain ⟨W0, hW0⟩ : ∃ W0, (w.alloc (.cells #[.int .i64 pr, .int .i64 pn, .slice ax M cp] 33)).alloc (.cells #[.int .i64 0, .int .i64 0, .slice none 0 0] 33) = W0 := ⟨_, rfl⟩
      have r0_p : W0.heap[w.heap.size]? = some (.cells #[.int .i64 pr, .int .i64 pn, .slice ax M cp] 33) := by rw [← hW0]; exact t_alloc2_0 _ _ _
      have r0_r : W0.heap[w.heap.size + 1]? = some (.cells #[.int .i64 0, .int .i64 0, .slice none 0 0] 33) := by rw [← hW0]; exact t_alloc2_1 _ _ _
      have bb : Below w.heap.size w W0 := by rw [← hW0]; exact t_allocB2 _ _ _
      have l0_p : w.heap.size < W0.heap.size := (Array.getElem?_eq_some_iff.1 r0_p).1
      have l0_r : (w.heap.size + 1) < W0.heap.size := (Array.getElem?_eq_some_iff.1 r0_r).1
      have t0_0 := ht.below bb
      have sl0_x := h.below bb
      have sl0_b := hb.below bb
      go_enter Tryd.func37, Tryd.ntmps37
      have sl0_s1 := s1.below bb
      have hcW : W0.cell? ⟨bd, od, none⟩ = some (.int .u8 1) := (bb.cell (p := ⟨bd, od, none⟩) hbd).trans hc
      have hRB : w.heap.size + 1 < W0.heap.size := l0_r
      have hr_p : W0.rangeAt w.heap.size 0 [.int .i64 pr, .int .i64 pn, .slice ax M cp] := tOne_range (cs := [.int .i64 pr, .int .i64 pn, .slice ax M cp]) r0_p
      go_wp2_with fail
      clear hW0 hcW
      apply t_mergeG (fun g a c z Wz => Wz.heap[g]? = some (.cells #[.int .i64 qr, .int .i64 qn, .slice a K1 c] 33) ∧ Sv Wz (.slice a K1 c) L1 ∧ Below W0.heap.size W0 Wz)
      · intro K2 HK2
        have ed : Below W0.heap.size W0 W0.drew := (Below.refl _ _).drew
        refine wp_region_held (S := fun w' => Below W0.heap.size W0 w') (by kernel_rfl) ?_
        refine heldTake (i := 0) 22 (v := .agg #[.int .i64 pr, .int .i64 pn, .slice ax M cp]) rfl rfl (by kernel_rfl) (by kernel_rfl) (by kernel_rfl) (fun _ _ _ h => h) (yieldsIf_load_mid (by rfl) 33 (.tmp 2) rfl w.heap.size 0 rfl [.int .i64 pr, .int .i64 pn, .slice ax M cp] _ (fun w' hw' => tRange hw' l0_p hr_p) Tryd.underlying33 rfl acSz3) ed ?_
        simp only [Act.put, List.setIfInBounds_toArray, List.set_cons_zero, List.set_cons_succ]
        refine heldTake (i := 1) 23 (v := .slice (some ⟨bd, od, none⟩) 9 cb) rfl rfl (by kernel_rfl) (by kernel_rfl) (by kernel_rfl) (fun _ _ _ h => h) (Or.inl ⟨by rfl, fun _ _ => by kernel_rfl⟩) ed ?_
        simp only [Act.put, List.setIfInBounds_toArray, List.set_cons_zero, List.set_cons_succ]
        refine heldTake (i := 2) 24 (v := .slice a1 8 c1) rfl rfl (by kernel_rfl) (by kernel_rfl) (by kernel_rfl) (fun _ _ _ h => h) (Or.inl ⟨by rfl, fun w9 _ => tSlice r1 w9⟩) ed ?_
        simp only [Act.put, List.setIfInBounds_toArray, List.set_cons_zero, List.set_cons_succ]
        refine heldTwo (i := 3) (i' := 9) (by kernel_rfl) ?_ ?_
        · refine (opCall (i := 3) (d := 25) (f := 48) (args := #[.slice a1 8 c1]) rfl (by kernel_rfl) rfl (by kernel_rfl) ((ballotOf_any (.slice a1 8 c1) (b.drop 1) W0.drew (sl0_s1.below ed) (by rw [List.length_drop, HL9.out]; decide)).mono ?_))
          rintro e' wc1 ⟨rfl, bc1⟩
          rw [bodyP_drop]
          simp only [baA]
          have ec1 : Below W0.heap.size W0 wc1 := ed.trans (bc1.mono ed.size)
          refine ⟨_, rfl, ec1, ?_⟩
          simp only [Act.put, List.setIfInBounds_toArray, List.set_cons_zero, List.set_cons_succ]
          refine heldTwo (i := 4) (i' := 9) (by kernel_rfl) ?_ ?_
          · refine (opCall (i := 4) (d := 26) (f := 13) (args := #[.agg #[.int .i64 pr, .int .i64 pn, .slice ax M cp], .agg #[.int .i64 (bodyP b).r, .int .i64 (bodyP b).n]]) rfl (by kernel_rfl) rfl (by kernel_rfl) ((promise_any ⟨pr, pn⟩ (.slice ax M cp) l (bodyP b) wc1 (sl0_x.below ec1) (t0_0.below ec1)).mono ?_))
            rintro e' wc2 ⟨y2, z2, rfl, sy2, sz2, bc2⟩
            rw [HP1.out.1, HP1.out.2.2.1]
            rw [HP1.out.2.1] at sy2
            obtain ⟨ay2, cy2, hy2⟩ := sy2.shape
            rw [HP1.out.2.2.2] at hy2
            subst hy2
            simp only [acA]
            have ec2 : Below W0.heap.size W0 wc2 := ec1.trans (bc2.mono ec1.size)
            refine ⟨_, rfl, ec2, ?_⟩
            simp only [Act.put, List.setIfInBounds_toArray, List.set_cons_zero, List.set_cons_succ]
            refine heldTake (i := 5) 21 (v := .tuple #[.agg #[.int .i64 qr, .int .i64 qn, .slice ay2 K1 cy2], z2, .int .i64 E1]) rfl rfl (by kernel_rfl) (by kernel_rfl) (by kernel_rfl) (fun _ _ _ h => h) (Or.inl ⟨by rfl, fun _ _ => by kernel_rfl⟩) ec2 ?_
            simp only [Act.put, List.setIfInBounds_toArray, List.set_cons_zero, List.set_cons_succ]
            refine heldTake (i := 6) 27 (v := .agg #[.int .i64 qr, .int .i64 qn, .slice ay2 K1 cy2]) rfl rfl (by kernel_rfl) (by kernel_rfl) (by kernel_rfl) (fun _ _ _ h => h) (Or.inl ⟨by rfl, fun _ _ => by kernel_rfl⟩) ec2 ?_
            simp only [Act.put, List.setIfInBounds_toArray, List.set_cons_zero, List.set_cons_succ]
            refine heldTake (i := 7) 28 (v := z2) rfl rfl (by kernel_rfl) (by kernel_rfl) (by kernel_rfl) (fun _ _ _ h => h) (Or.inl ⟨by rfl, fun _ _ => by kernel_rfl⟩) ec2 ?_
            simp only [Act.put, List.setIfInBounds_toArray, List.set_cons_zero, List.set_cons_succ]
            refine heldTake (i := 8) 29 (v := .int .i64 E1) rfl rfl (by kernel_rfl) (by kernel_rfl) (by kernel_rfl) (fun _ _ _ h => h) (Or.inl ⟨by rfl, fun _ _ => by kernel_rfl⟩) ec2 ?_
            simp only [Act.put, List.setIfInBounds_toArray, List.set_cons_zero, List.set_cons_succ]
            obtain ⟨gv3, hgv3⟩ : ∃ g, g = wc2.heap.size := ⟨_, rfl⟩
            have aG3 : Below wc2.heap.size wc2 (wc2.alloc (.cells #[.int .i64 0, .int .i64 0, .slice none 0 0] 33)) := (Below.refl _ _).alloc (Nat.le_refl _) _
            have eG3 : Below W0.heap.size W0 (wc2.alloc (.cells #[.int .i64 0, .int .i64 0, .slice none 0 0] 33)) := ec2.trans (aG3.mono ec2.size)
            have rG3 : (wc2.alloc (.cells #[.int .i64 0, .int .i64 0, .slice none 0 0] 33)).heap[gv3]? = some (.cells #[.int .i64 0, .int .i64 0, .slice none 0 0] 33) := by rw [hgv3]; exact heap_alloc_new _ _
            have hgle3 : W0.heap.size ≤ gv3 := by rw [hgv3]; exact ec2.size
            have sy_3 := sy2.below aG3
            refine heldOne (i := 9) (by kernel_rfl) (opRun (i := 9) (d := 6) (v := .pointer (some ⟨gv3, 0, none⟩)) (w' := wc2.alloc (.cells #[.int .i64 0, .int .i64 0, .slice none 0 0] 33)) rfl (by kernel_rfl) rfl (by rw [hgv3]; kernel_rfl) ⟨eG3, ?_⟩)
            simp only [Act.put, List.setIfInBounds_toArray, List.set_cons_zero, List.set_cons_succ]
            have hone4 : (#[.int .i64 qr, .int .i64 qn, .slice ay2 K1 cy2] : Array Value).all (·.oneCell') = true := by simp [Value.oneCell']
            refine heldOne (i := 10) (by kernel_rfl) (opStore (i := 10) rfl (by kernel_rfl) rfl 33 (.tmp 6) (.tmp 27) rfl gv3 #[.int .i64 qr, .int .i64 qn, .slice ay2 K1 cy2] (by kernel_rfl) (by kernel_rfl) 33 _ rG3 acSz3 rfl hone4 ⟨tBelow_row eG3 hgle3 _, ?_⟩)
            have eS4 := tBelow_row eG3 hgle3 (#[.int .i64 qr, .int .i64 qn, .slice ay2 K1 cy2])
            have rS4 := setRow_heap _ gv3 _ (#[.int .i64 qr, .int .i64 qn, .slice ay2 K1 cy2]) 33 _ rG3
            have sy_4 := sy_3.otherRow rG3 (by simp) (#[.int .i64 qr, .int .i64 qn, .slice ay2 K1 cy2])
            refine heldTake (i := 11) 7 (v := z2) rfl rfl (by kernel_rfl) (by kernel_rfl) (by kernel_rfl) (fun _ _ _ h => h) (Or.inl ⟨by rfl, fun _ _ => by kernel_rfl⟩) eS4 ?_
            simp only [Act.put, List.setIfInBounds_toArray, List.set_cons_zero, List.set_cons_succ]
            refine heldTake (i := 12) 8 (v := .int .i64 E1) rfl rfl (by kernel_rfl) (by kernel_rfl) (by kernel_rfl) (fun _ _ _ h => h) (Or.inl ⟨by rfl, fun _ _ => by kernel_rfl⟩) eS4 ?_
            simp only [Act.put, List.setIfInBounds_toArray, List.set_cons_zero, List.set_cons_succ]
            exact wpAnyH_done (by kernel_rfl) (HK2.out gv3 ay2 cy2 z2 _ ⟨rS4, sy_4, eS4⟩) _
          · obtain ⟨gv5, hgv5⟩ : ∃ g, g = wc1.heap.size := ⟨_, rfl⟩
            have aG5 : Below wc1.heap.size wc1 (wc1.alloc (.cells #[.int .i64 0, .int .i64 0, .slice none 0 0] 33)) := (Below.refl _ _).alloc (Nat.le_refl _) _
            have eG5 : Below W0.heap.size W0 (wc1.alloc (.cells #[.int .i64 0, .int .i64 0, .slice none 0 0] 33)) := ec1.trans (aG5.mono ec1.size)
            have rG5 : (wc1.alloc (.cells #[.int .i64 0, .int .i64 0, .slice none 0 0] 33)).heap[gv5]? = some (.cells #[.int .i64 0, .int .i64 0, .slice none 0 0] 33) := by rw [hgv5]; exact heap_alloc_new _ _
            have hgle5 : W0.heap.size ≤ gv5 := by rw [hgv5]; exact ec1.size
            refine (opRun (i := 9) (d := 6) (v := .pointer (some ⟨gv5, 0, none⟩)) (w' := wc1.alloc (.cells #[.int .i64 0, .int .i64 0, .slice none 0 0] 33)) rfl (by kernel_rfl) rfl (by rw [hgv5]; kernel_rfl) ⟨eG5, ?_⟩)
            simp only [Act.put, List.setIfInBounds_toArray, List.set_cons_zero, List.set_cons_succ]
            refine heldOne (i := 4) (by kernel_rfl) (opCall (i := 4) (d := 26) (f := 13) (args := #[.agg #[.int .i64 pr, .int .i64 pn, .slice ax M cp], .agg #[.int .i64 (bodyP b).r, .int .i64 (bodyP b).n]]) rfl (by kernel_rfl) rfl (by kernel_rfl) ((promise_any ⟨pr, pn⟩ (.slice ax M cp) l (bodyP b) (wc1.alloc (.cells #[.int .i64 0, .int .i64 0, .slice none 0 0] 33)) (sl0_x.below eG5) (t0_0.below eG5)).mono ?_))
            rintro e' wc6 ⟨y6, z6, rfl, sy6, sz6, bc6⟩
            rw [HP1.out.1, HP1.out.2.2.1]
            rw [HP1.out.2.1] at sy6
            obtain ⟨ay6, cy6, hy6⟩ := sy6.shape
            rw [HP1.out.2.2.2] at hy6
            subst hy6
            simp only [acA]
            have ec6 : Below W0.heap.size W0 wc6 := eG5.trans (bc6.mono eG5.size)
            have rg6 := (bc6.block _ (Array.getElem?_eq_some_iff.1 rG5).1).trans rG5
            refine ⟨_, rfl, ec6, ?_⟩
            simp only [Act.put, List.setIfInBounds_toArray, List.set_cons_zero, List.set_cons_succ]
            refine heldTake (i := 5) 21 (v := .tuple #[.agg #[.int .i64 qr, .int .i64 qn, .slice ay6 K1 cy6], z6, .int .i64 E1]) rfl rfl (by kernel_rfl) (by kernel_rfl) (by kernel_rfl) (fun _ _ _ h => h) (Or.inl ⟨by rfl, fun _ _ => by kernel_rfl⟩) ec6 ?_
            simp only [Act.put, List.setIfInBounds_toArray, List.set_cons_zero, List.set_cons_succ]
            refine heldTake (i := 6) 27 (v := .agg #[.int .i64 qr, .int .i64 qn, .slice ay6 K1 cy6]) rfl rfl (by kernel_rfl) (by kernel_rfl) (by kernel_rfl) (fun _ _ _ h => h) (Or.inl ⟨by rfl, fun _ _ => by kernel_rfl⟩) ec6 ?_
            simp only [Act.put, List.setIfInBounds_toArray, List.set_cons_zero, List.set_cons_succ]
            refine heldTake (i := 7) 28 (v := z6) rfl rfl (by kernel_rfl) (by kernel_rfl) (by kernel_rfl) (fun _ _ _ h => h) (Or.inl ⟨by rfl, fun _ _ => by kernel_rfl⟩) ec6 ?_
            simp only [Act.put, List.setIfInBounds_toArray, List.set_cons_zero, List.set_cons_succ]
            refine heldTake (i := 8) 29 (v := .int .i64 E1) rfl rfl (by kernel_rfl) (by kernel_rfl) (by kernel_rfl) (fun _ _ _ h => h) (Or.inl ⟨by rfl, fun _ _ => by kernel_rfl⟩) ec6 ?_
            simp only [Act.put, List.setIfInBounds_toArray, List.set_cons_zero, List.set_cons_succ]
            have hone7 : (#[.int .i64 qr, .int .i64 qn, .slice ay6 K1 cy6] : Array Value).all (·.oneCell') = true := by simp [Value.oneCell']
            refine heldOne (i := 10) (by kernel_rfl) (opStore (i := 10) rfl (by kernel_rfl) rfl 33 (.tmp 6) (.tmp 27) rfl gv5 #[.int .i64 qr, .int .i64 qn, .slice ay6 K1 cy6] (by kernel_rfl) (by kernel_rfl) 33 _ rg6 acSz3 rfl hone7 ⟨tBelow_row ec6 hgle5 _, ?_⟩)
            have eS7 := tBelow_row ec6 hgle5 (#[.int .i64 qr, .int .i64 qn, .slice ay6 K1 cy6])
            have rS7 := setRow_heap _ gv5 _ (#[.int .i64 qr, .int .i64 qn, .slice ay6 K1 cy6]) 33 _ rg6
            have sy_7 := sy6.otherRow rg6 (by simp) (#[.int .i64 qr, .int .i64 qn, .slice ay6 K1 cy6])
            refine heldTake (i := 11) 7 (v := z6) rfl rfl (by kernel_rfl) (by kernel_rfl) (by kernel_rfl) (fun _ _ _ h => h) (Or.inl ⟨by rfl, fun _ _ => by kernel_rfl⟩) eS7 ?_
            simp only [Act.put, List.setIfInBounds_toArray, List.set_cons_zero, List.set_cons_succ]
            refine heldTake (i := 12) 8 (v := .int .i64 E1) rfl rfl (by kernel_rfl) (by kernel_rfl) (by kernel_rfl) (fun _ _ _ h => h) (Or.inl ⟨by rfl, fun _ _ => by kernel_rfl⟩) eS7 ?_
            simp only [Act.put, List.setIfInBounds_toArray, List.set_cons_zero, List.set_cons_succ]
            exact wpAnyH_done (by kernel_rfl) (HK2.out gv5 ay6 cy6 z6 _ ⟨rS7, sy_7, eS7⟩) _
        · obtain ⟨gv8, hgv8⟩ : ∃ g, g = W0.drew.heap.size := ⟨_, rfl⟩
          have aG8 : Below W0.drew.heap.size W0.drew (W0.drew.alloc (.cells #[.int .i64 0, .int .i64 0, .slice none 0 0] 33)) := (Below.refl _ _).alloc (Nat.le_refl _) _
          have eG8 : Below W0.heap.size W0 (W0.drew.alloc (.cells #[.int .i64 0, .int .i64 0, .slice none 0 0] 33)) := ed.trans (aG8.mono ed.size)
          have rG8 : (W0.drew.alloc (.cells #[.int .i64 0, .int .i64 0, .slice none 0 0] 33)).heap[gv8]? = some (.cells #[.int .i64 0, .int .i64 0, .slice none 0 0] 33) := by rw [hgv8]; exact heap_alloc_new _ _
          have hgle8 : W0.heap.size ≤ gv8 := by rw [hgv8]; exact ed.size
          refine (opRun (i := 9) (d := 6) (v := .pointer (some ⟨gv8, 0, none⟩)) (w' := W0.drew.alloc (.cells #[.int .i64 0, .int .i64 0, .slice none 0 0] 33)) rfl (by kernel_rfl) rfl (by rw [hgv8]; kernel_rfl) ⟨eG8, ?_⟩)
          simp only [Act.put, List.setIfInBounds_toArray, List.set_cons_zero, List.set_cons_succ]
          refine heldOne (i := 3) (by kernel_rfl) (opCall (i := 3) (d := 25) (f := 48) (args := #[.slice a1 8 c1]) rfl (by kernel_rfl) rfl (by kernel_rfl) ((ballotOf_any (.slice a1 8 c1) (b.drop 1) (W0.drew.alloc (.cells #[.int .i64 0, .int .i64 0, .slice none 0 0] 33)) (sl0_s1.below eG8) (by rw [List.length_drop, HL9.out]; decide)).mono ?_))
          rintro e' wc9 ⟨rfl, bc9⟩
          rw [bodyP_drop]
          simp only [baA]
          have ec9 : Below W0.heap.size W0 wc9 := eG8.trans (bc9.mono eG8.size)
          have rg9 := (bc9.block _ (Array.getElem?_eq_some_iff.1 rG8).1).trans rG8
          refine ⟨_, rfl, ec9, ?_⟩
          simp only [Act.put, List.setIfInBounds_toArray, List.set_cons_zero, List.set_cons_succ]
          refine heldOne (i := 4) (by kernel_rfl) (opCall (i := 4) (d := 26) (f := 13) (args := #[.agg #[.int .i64 pr, .int .i64 pn, .slice ax M cp], .agg #[.int .i64 (bodyP b).r, .int .i64 (bodyP b).n]]) rfl (by kernel_rfl) rfl (by kernel_rfl) ((promise_any ⟨pr, pn⟩ (.slice ax M cp) l (bodyP b) wc9 (sl0_x.below ec9) (t0_0.below ec9)).mono ?_))
          rintro e' wc10 ⟨y10, z10, rfl, sy10, sz10, bc10⟩
          rw [HP1.out.1, HP1.out.2.2.1]
          rw [HP1.out.2.1] at sy10
          obtain ⟨ay10, cy10, hy10⟩ := sy10.shape
          rw [HP1.out.2.2.2] at hy10
          subst hy10
          simp only [acA]
          have ec10 : Below W0.heap.size W0 wc10 := ec9.trans (bc10.mono ec9.size)
          have rg10 := (bc10.block _ (Array.getElem?_eq_some_iff.1 rg9).1).trans rg9
          refine ⟨_, rfl, ec10, ?_⟩
          simp only [Act.put, List.setIfInBounds_toArray, List.set_cons_zero, List.set_cons_succ]
          refine heldTake (i := 5) 21 (v := .tuple #[.agg #[.int .i64 qr, .int .i64 qn, .slice ay10 K1 cy10], z10, .int .i64 E1]) rfl rfl (by kernel_rfl) (by kernel_rfl) (by kernel_rfl) (fun _ _ _ h => h) (Or.inl ⟨by rfl, fun _ _ => by kernel_rfl⟩) ec10 ?_
          simp only [Act.put, List.setIfInBounds_toArray, List.set_cons_zero, List.set_cons_succ]
          refine heldTake (i := 6) 27 (v := .agg #[.int .i64 qr, .int .i64 qn, .slice ay10 K1 cy10]) rfl rfl (by kernel_rfl) (by kernel_rfl) (by kernel_rfl) (fun _ _ _ h => h) (Or.inl ⟨by rfl, fun _ _ => by kernel_rfl⟩) ec10 ?_
          simp only [Act.put, List.setIfInBounds_toArray, List.set_cons_zero, List.set_cons_succ]
          refine heldTake (i := 7) 28 (v := z10) rfl rfl (by kernel_rfl) (by kernel_rfl) (by kernel_rfl) (fun _ _ _ h => h) (Or.inl ⟨by rfl, fun _ _ => by kernel_rfl⟩) ec10 ?_
          simp only [Act.put, List.setIfInBounds_toArray, List.set_cons_zero, List.set_cons_succ]
          refine heldTake (i := 8) 29 (v := .int .i64 E1) rfl rfl (by kernel_rfl) (by kernel_rfl) (by kernel_rfl) (fun _ _ _ h => h) (Or.inl ⟨by rfl, fun _ _ => by kernel_rfl⟩) ec10 ?_
          simp only [Act.put, List.setIfInBounds_toArray, List.set_cons_zero, List.set_cons_succ]
          have hone11 : (#[.int .i64 qr, .int .i64 qn, .slice ay10 K1 cy10] : Array Value).all (·.oneCell') = true := by simp [Value.oneCell']
          refine heldOne (i := 10) (by kernel_rfl) (opStore (i := 10) rfl (by kernel_rfl) rfl 33 (.tmp 6) (.tmp 27) rfl gv8 #[.int .i64 qr, .int .i64 qn, .slice ay10 K1 cy10] (by kernel_rfl) (by kernel_rfl) 33 _ rg10 acSz3 rfl hone11 ⟨tBelow_row ec10 hgle8 _, ?_⟩)
          have eS11 := tBelow_row ec10 hgle8 (#[.int .i64 qr, .int .i64 qn, .slice ay10 K1 cy10])
          have rS11 := setRow_heap _ gv8 _ (#[.int .i64 qr, .int .i64 qn, .slice ay10 K1 cy10]) 33 _ rg10
          have sy_11 := sy10.otherRow rg10 (by simp) (#[.int .i64 qr, .int .i64 qn, .slice ay10 K1 cy10])
          refine heldTake (i := 11) 7 (v := z10) rfl rfl (by kernel_rfl) (by kernel_rfl) (by kernel_rfl) (fun _ _ _ h => h) (Or.inl ⟨by rfl, fun _ _ => by kernel_rfl⟩) eS11 ?_
          simp only [Act.put, List.setIfInBounds_toArray, List.set_cons_zero, List.set_cons_succ]
          refine heldTake (i := 12) 8 (v := .int .i64 E1) rfl rfl (by kernel_rfl) (by kernel_rfl) (by kernel_rfl) (fun _ _ _ h => h) (Or.inl ⟨by rfl, fun _ _ => by kernel_rfl⟩) eS11 ?_
          simp only [Act.put, List.setIfInBounds_toArray, List.set_cons_zero, List.set_cons_succ]
          exact wpAnyH_done (by kernel_rfl) (HK2.out gv8 ay10 cy10 z10 _ ⟨rS11, sy_11, eS11⟩) _
      rintro g a c z Wz ⟨qg, sg, eg⟩
      have rz_r := (eg.block _ l0_r).trans r0_r
      have lz_r := Nat.lt_of_lt_of_le l0_r eg.size
      have dz := bb.trans (eg.mono bb.size)
      clear hr_p r0_p r0_r
      have onR : (#[.int .i64 qr, .int .i64 qn, .slice a K1 c] : Array Value).all (·.oneCell') = true := by simp [Value.oneCell']
      go_wp2_with (first | ((with_reducible (refine tpLook ?_)); (refine wpList_load_row rfl 33 _ rfl g rfl 33 _ (0, 0) _ qg Tryd.underlying33 rfl acSz3 ?_)) | ((with_reducible (refine tpLook ?_)); (refine wpList_store_row rfl 33 (.tmp 4) (.tmp 30) rfl (w.heap.size + 1) #[.int .i64 qr, .int .i64 qn, .slice a K1 c] rfl rfl 33 _ rz_r acSz3 rfl onR ?_)))
      have qR := setRow_heap Wz (w.heap.size + 1) _ (#[.int .i64 qr, .int .i64 qn, .slice a K1 c]) 33 _ rz_r
      have dR := tBelow_row dz (show w.heap.size ≤ w.heap.size + 1 by omega) (#[.int .i64 qr, .int .i64 qn, .slice a K1 c])
      have sR := sg.otherRow rz_r (by simp) (#[.int .i64 qr, .int .i64 qn, .slice a K1 c])
      refine bodyPost_ret (tRow2 rfl _ _ (w.heap.size + 1) 33 _ (0, 0) _ rfl qR Tryd.underlying33 rfl acSz3) rfl ?_
      rw [HD.out.1, HD.out.2]
      exact ⟨_, rfl, sR, dR⟩
    · have HD : Hid (donE ⟨⟨pr, pn⟩, l⟩ b = 3 ∧ donA ⟨⟨pr, pn⟩, l⟩ b = a0) := by
        exact ⟨(if_neg (fun g => c1b g.2)).trans (if_neg (fun g => by have := HL9.out; have := g.1; omega)), (if_neg (fun g => c1b g.2)).trans (if_neg (fun g => by have := HL9.out; have := g.1; omega))⟩
      generalize b.getD 0 0 = B0 at hc hx c1b
      have hB1 : (B0 == 1) = false := by simpa using c1b
      clear c1b r1 s1
      obtain ⟨W0, hW0⟩ : ∃ W0, (w.alloc (.cells #[.int .i64 pr, .int .i64 pn, .slice ax M cp] 33)).alloc (.cells #[.int .i64 0, .int .i64 0, .slice none 0 0] 33) = W0 := ⟨_, rfl⟩
      have r0_p : W0.heap[w.heap.size]? = some (.cells #[.int .i64 pr, .int .i64 pn, .slice ax M cp] 33) := by rw [← hW0]; exact t_alloc2_0 _ _ _
      have r0_r : W0.heap[w.heap.size + 1]? = some (.cells #[.int .i64 0, .int .i64 0, .slice none 0 0] 33) := by rw [← hW0]; exact t_alloc2_1 _ _ _
      have bb : Below w.heap.size w W0 := by rw [← hW0]; exact t_allocB2 _ _ _
      have l0_p : w.heap.size < W0.heap.size := (Array.getElem?_eq_some_iff.1 r0_p).1
      have l0_r : (w.heap.size + 1) < W0.heap.size := (Array.getElem?_eq_some_iff.1 r0_r).1
      have t0_0 := ht.below bb
      have sl0_x := h.below bb
      have sl0_b := hb.below bb
      go_enter Tryd.func37, Tryd.ntmps37
      have hcW : W0.cell? ⟨bd, od, none⟩ = some (.int .u8 B0) := (bb.cell (p := ⟨bd, od, none⟩) hbd).trans hc
      have hRB : w.heap.size + 1 < W0.heap.size := l0_r
      have onR : (#[.int .i64 0, .int .i64 0, .slice none 0 0] : Array Value).all (·.oneCell') = true := by simp [Value.oneCell']
      go_wp2_with ((with_reducible (refine tpLook ?_)); (refine wpList_store_row rfl 33 (.tmp 4) (.tmp 57) rfl (w.heap.size + 1) #[.int .i64 0, .int .i64 0, .slice none 0 0] rfl rfl 33 _ r0_r acSz3 rfl onR ?_))
      have qR := setRow_heap W0 (w.heap.size + 1) _ (#[.int .i64 0, .int .i64 0, .slice none 0 0]) 33 _ r0_r
      have dR := tBelow_row bb (show w.heap.size ≤ (w.heap.size + 1) by omega) (#[.int .i64 0, .int .i64 0, .slice none 0 0])
      refine bodyPost_ret (tRow2 rfl _ _ (w.heap.size + 1) 33 _ (0, 0) _ rfl qR Tryd.underlying33 rfl acSz3) rfl ?_
      rw [HD.out.1, HD.out.2]
      exact ⟨.slice none 0 0, rfl, Sv.nil0 _, dR⟩
  · have k9 : ((b.length : Int) == 9) = false := by simp; omega
    have H9 : Hid (¬ b.length = 9) := c9
    by_cases c33 : b.length = 33
    · obtain ⟨bd, od, hv, hbd, hc⟩ := HB0.out 0 (by omega) rfl
      simp only [Value.slice.injEq] at hv
      obtain ⟨rfl, -, -⟩ := hv
      rw [Nat.add_zero] at hc
      clear HB0
      obtain ⟨a1, c1, r1, s1⟩ := hb.from 1 (by omega)
      have HL33 : Hid (b.length = 33) := c33
      rw [c33] at hb r1 k9 ⊢
      rw [c33, show (33 - 1 : Nat) = 32 from rfl] at s1
      replace r1 : ∀ W, (Instr.slice 23 (.slice (some ⟨bd, od, none⟩) 33 cb) (some (.int .i64 1)) none none).run Tryd.prog W = .ok (.slice a1 32 c1) W := r1
      clear c33 c9 k9
      by_cases c2b : b.getD 0 0 = 2
      · have hdd : donE ⟨⟨pr, pn⟩, l⟩ b = (if decE (b.drop 13) = 0 then votE ⟨⟨pr, pn⟩, l⟩ (bodyV b) else decE (b.drop 13)) ∧ donA ⟨⟨pr, pn⟩, l⟩ b = (if decE (b.drop 13) = 0 then ⟨accP ⟨⟨pr, pn⟩, l⟩ (bodyV b), accL ⟨⟨pr, pn⟩, l⟩ (bodyV b)⟩ else a0) := ⟨(if_neg (fun g => H9.out g.1)).trans (if_pos ⟨HL33.out, c2b⟩), (if_neg (fun g => H9.out g.1)).trans (if_pos ⟨HL33.out, c2b⟩)⟩
        rw [c2b] at hc
        clear c2b hx
        have HDD : Hid _ := hdd
        clear hdd
        obtain ⟨W0, hW0⟩ : ∃ W0, (w.alloc (.cells #[.int .i64 pr, .int .i64 pn, .slice ax M cp] 33)).alloc (.cells #[.int .i64 0, .int .i64 0, .slice none 0 0] 33) = W0 := ⟨_, rfl⟩
        have r0_p : W0.heap[w.heap.size]? = some (.cells #[.int .i64 pr, .int .i64 pn, .slice ax M cp] 33) := by rw [← hW0]; exact t_alloc2_0 _ _ _
        have r0_r : W0.heap[w.heap.size + 1]? = some (.cells #[.int .i64 0, .int .i64 0, .slice none 0 0] 33) := by rw [← hW0]; exact t_alloc2_1 _ _ _
        have bb : Below w.heap.size w W0 := by rw [← hW0]; exact t_allocB2 _ _ _
        have l0_p : w.heap.size < W0.heap.size := (Array.getElem?_eq_some_iff.1 r0_p).1
        have l0_r : (w.heap.size + 1) < W0.heap.size := (Array.getElem?_eq_some_iff.1 r0_r).1
        have t0_0 := ht.below bb
        have sl0_x := h.below bb
        have sl0_b := hb.below bb
        go_enter Tryd.func37, Tryd.ntmps37
        have sl0_s1 := s1.below bb
        have hcW : W0.cell? ⟨bd, od, none⟩ = some (.int .u8 2) := (bb.cell (p := ⟨bd, od, none⟩) hbd).trans hc
        clear hc
        go_wp2_with fail
        clear hW0 hcW r1
        have hvd : decE ((b.drop 1).drop 12) = decE (b.drop 13) := by rw [List.drop_drop]
        refine (voteOf_any (.slice a1 32 c1) (b.drop 1) W0 sl0_s1 (by rw [List.length_drop, HL33.out]) t0_0).mono ?_
        rintro e w1 ⟨rfl, bw1⟩
        rw [hvd]
        clear hvd
        have d1 := bb.trans (bw1.mono bb.size)
        have tt1_0 := t0_0.below bw1
        have rw1_p := (bw1.block _ l0_p).trans r0_p
        have lw1_p := Nat.lt_of_lt_of_le l0_p bw1.size
        have rw1_r := (bw1.block _ l0_r).trans r0_r
        have lw1_r := Nat.lt_of_lt_of_le l0_r bw1.size
        have sl1_x := sl0_x.below bw1
        have sl1_b := sl0_b.below bw1
        have sl1_s1 := sl0_s1.below bw1
        clear t0_0 l0_p r0_p l0_r r0_r sl0_x sl0_b sl0_s1
        clear bw1
        have hRB : w.heap.size + 1 < w1.heap.size := lw1_r
        by_cases h1 : decE (b.drop 13) = 0
        · have hvv := voV_body b h1
          have HDD2 := HDD.out
          rw [if_pos h1, if_pos h1] at HDD2
          rw [hvv, h1]
          obtain ⟨⟨qr, qn⟩, hP1⟩ : ∃ P1, accP ⟨⟨pr, pn⟩, l⟩ (bodyV b) = P1 := ⟨_, rfl⟩
          obtain ⟨L1, hL1⟩ : ∃ L1, accL ⟨⟨pr, pn⟩, l⟩ (bodyV b) = L1 := ⟨_, rfl⟩
          obtain ⟨E1, hE1⟩ : ∃ E1, votE ⟨⟨pr, pn⟩, l⟩ (bodyV b) = E1 := ⟨_, rfl⟩
          obtain ⟨K1, hK1⟩ : ∃ K1, L1.length = K1 := ⟨_, rfl⟩
          have HP1 : Hid (accP ⟨⟨pr, pn⟩, l⟩ (bodyV b) = ⟨qr, qn⟩ ∧ accL ⟨⟨pr, pn⟩, l⟩ (bodyV b) = L1 ∧ votE ⟨⟨pr, pn⟩, l⟩ (bodyV b) = E1 ∧ L1.length = K1) := ⟨hP1, hL1, hE1, hK1⟩
          have HD : Hid (donE ⟨⟨pr, pn⟩, l⟩ b = E1 ∧ donA ⟨⟨pr, pn⟩, l⟩ b = ⟨⟨qr, qn⟩, L1⟩) := by rw [hP1, hL1, hE1] at HDD2; exact HDD2
          clear HDD HDD2 hP1 hL1 hE1 hK1 h1 hvv
          generalize hbv : bodyV b = bv at HP1 ⊢
          clear hbv
          obtain ⟨vs, ⟨vr, vn⟩, ⟨vk, vc, vq, vm, vx⟩⟩ := bv
          simp only [vtA, vtC]
          have bN2 : Below w1.heap.size w1 (w1.alloc (.cells #[.int .i64 0, .int .i64 0, .int .i64 0, .int .i64 0, .int .i64 0, .int .i64 0, .int .i64 0, .int .i64 0] 57)) := (Below.refl _ _).alloc (Nat.le_refl _) _
          have rN2 := heap_alloc_new w1 (.cells #[.int .i64 0, .int .i64 0, .int .i64 0, .int .i64 0, .int .i64 0, .int .i64 0, .int .i64 0, .int .i64 0] 57)
          have on2 : (#[.int .i64 vs, .int .i64 vr, .int .i64 vn, .int .i64 vk, .int .i64 vc, .int .i64 vq, .int .i64 vm, .int .i64 vx] : Array Value).all (·.oneCell') = true := by simp [Value.oneCell']
          generalize hN2 : w1.alloc (.cells #[.int .i64 0, .int .i64 0, .int .i64 0, .int .i64 0, .int .i64 0, .int .i64 0, .int .i64 0, .int .i64 0] 57) = N2 at bN2 rN2
          go_upto_region 6 with ((with_reducible (refine tpLook ?_)); (refine wpList_store_row rfl 57 (.tmp 9) (.tmp 46) rfl w1.heap.size #[.int .i64 vs, .int .i64 vr, .int .i64 vn, .int .i64 vk, .int .i64 vc, .int .i64 vq, .int .i64 vm, .int .i64 vx] rfl rfl 57 _ rN2 vtSz8 rfl on2 ?_))
          clear hN2
          have qN2 := setRow_heap N2 w1.heap.size _ (#[.int .i64 vs, .int .i64 vr, .int .i64 vn, .int .i64 vk, .int .i64 vc, .int .i64 vq, .int .i64 vm, .int .i64 vx]) 57 _ rN2
          replace bN2 := tBelow_row bN2 (Nat.le_refl _) (#[.int .i64 vs, .int .i64 vr, .int .i64 vn, .int .i64 vk, .int .i64 vc, .int .i64 vq, .int .i64 vm, .int .i64 vx])
          generalize N2.setRow w1.heap.size (#[.int .i64 vs, .int .i64 vr, .int .i64 vn, .int .i64 vk, .int .i64 vc, .int .i64 vq, .int .i64 vm, .int .i64 vx]) = W2 at qN2 bN2 ⊢
          have lN2 : w1.heap.size < W2.heap.size := (Array.getElem?_eq_some_iff.1 qN2).1
          clear rN2 on2
          have d2 := d1.trans (bN2.mono d1.size)
          have tt2_0 := tt1_0.below bN2
          have rw2_p := (bN2.block _ lw1_p).trans rw1_p
          have lw2_p := Nat.lt_of_lt_of_le lw1_p bN2.size
          have rw2_r := (bN2.block _ lw1_r).trans rw1_r
          have lw2_r := Nat.lt_of_lt_of_le lw1_r bN2.size
          have sl2_x := sl1_x.below bN2
          have sl2_b := sl1_b.below bN2
          have sl2_s1 := sl1_s1.below bN2
          clear tt1_0 lw1_p rw1_p lw1_r rw1_r sl1_x sl1_b sl1_s1
          obtain ⟨gV, hgV⟩ : ∃ g, g = w1.heap.size := ⟨_, rfl⟩
          rw [← hgV] at qN2 lN2 ⊢
          clear hgV bN2
          go_wp2_with (first | ((with_reducible (refine tpLook ?_)); (refine wpList_load_row rfl 33 _ rfl w.heap.size rfl 33 _ (0, 0) _ rw2_p Tryd.underlying33 rfl acSz3 ?_)) | ((with_reducible (refine tpLook ?_)); (refine wpList_load_row rfl 57 _ rfl gV rfl 57 _ (0, 0) _ qN2 Tryd.underlying57 rfl vtSz8 ?_)))
          refine (accept_any ⟨pr, pn⟩ (.slice ax M cp) l ⟨vs, ⟨vr, vn⟩, ⟨vk, vc, vq, vm, vx⟩⟩ W2 sl2_x tt2_0).mono ?_
          rintro e w2 ⟨y, rfl, sy, bw2⟩
          rw [HP1.out.1, HP1.out.2.2.1]
          rw [HP1.out.2.1] at sy
          obtain ⟨ay, cy, hy⟩ := sy.shape
          rw [HP1.out.2.2.2] at hy
          subst hy
          simp only [acA]
          have d3 := d2.trans (bw2.mono d2.size)
          have tt3_0 := tt2_0.below bw2
          have rw3_p := (bw2.block _ lw2_p).trans rw2_p
          have lw3_p := Nat.lt_of_lt_of_le lw2_p bw2.size
          have rw3_r := (bw2.block _ lw2_r).trans rw2_r
          have lw3_r := Nat.lt_of_lt_of_le lw2_r bw2.size
          have rw3_gV := (bw2.block _ lN2).trans qN2
          have lw3_gV := Nat.lt_of_lt_of_le lN2 bw2.size
          have sl3_x := sl2_x.below bw2
          have sl3_b := sl2_b.below bw2
          have sl3_s1 := sl2_s1.below bw2
          clear tt2_0 lw2_p rw2_p lw2_r rw2_r lN2 qN2 sl2_x sl2_b sl2_s1
          clear bw2
          have onR : (#[.int .i64 qr, .int .i64 qn, .slice ay K1 cy] : Array Value).all (·.oneCell') = true := by simp [Value.oneCell']
          go_wp2_with ((with_reducible (refine tpLook ?_)); (refine wpList_store_row rfl 33 (.tmp 4) (.tmp 55) rfl (w.heap.size + 1) #[.int .i64 qr, .int .i64 qn, .slice ay K1 cy] rfl rfl 33 _ rw3_r acSz3 rfl onR ?_))
          have qR := setRow_heap w2 (w.heap.size + 1) _ (#[.int .i64 qr, .int .i64 qn, .slice ay K1 cy]) 33 _ rw3_r
          have dR := tBelow_row d3 (show w.heap.size ≤ (w.heap.size + 1) by omega) (#[.int .i64 qr, .int .i64 qn, .slice ay K1 cy])
          refine bodyPost_ret (tRow2 rfl _ _ (w.heap.size + 1) 33 _ (0, 0) _ rfl qR Tryd.underlying33 rfl acSz3) rfl ?_
          have sR := sy.otherRow rw3_r (by simp) (#[.int .i64 qr, .int .i64 qn, .slice ay K1 cy])
          rw [HD.out.1, HD.out.2]
          exact ⟨_, rfl, sR, dR⟩
        · have hvv : voV (b.drop 1) = ⟨0, ⟨0, 0⟩, ⟨0, 0, 0, 0, 0⟩⟩ := (voV_neg (by rw [List.drop_drop]; exact h1)).2
          have HDD2 := HDD.out
          rw [if_neg h1, if_neg h1] at HDD2
          obtain ⟨E, hE⟩ : ∃ E, decE (b.drop 13) = E := ⟨_, rfl⟩
          rw [hE] at h1 HDD2
          rw [hvv, hE]
          have HD : Hid (donE ⟨⟨pr, pn⟩, l⟩ b = E ∧ donA ⟨⟨pr, pn⟩, l⟩ b = a0) := HDD2
          have h1b : (E == 0) = false := by simpa using h1
          clear h1 HDD HDD2 hvv hE
          simp only [vtA, vtC]
          have bN2 : Below w1.heap.size w1 (w1.alloc (.cells #[.int .i64 0, .int .i64 0, .int .i64 0, .int .i64 0, .int .i64 0, .int .i64 0, .int .i64 0, .int .i64 0] 57)) := (Below.refl _ _).alloc (Nat.le_refl _) _
          have rN2 := heap_alloc_new w1 (.cells #[.int .i64 0, .int .i64 0, .int .i64 0, .int .i64 0, .int .i64 0, .int .i64 0, .int .i64 0, .int .i64 0] 57)
          have on2 : (#[.int .i64 0, .int .i64 0, .int .i64 0, .int .i64 0, .int .i64 0, .int .i64 0, .int .i64 0, .int .i64 0] : Array Value).all (·.oneCell') = true := by simp [Value.oneCell']
          generalize hN2 : w1.alloc (.cells #[.int .i64 0, .int .i64 0, .int .i64 0, .int .i64 0, .int .i64 0, .int .i64 0, .int .i64 0, .int .i64 0] 57) = N2 at bN2 rN2
          go_upto_region 6 with ((with_reducible (refine tpLook ?_)); (refine wpList_store_row rfl 57 (.tmp 9) (.tmp 46) rfl w1.heap.size #[.int .i64 0, .int .i64 0, .int .i64 0, .int .i64 0, .int .i64 0, .int .i64 0, .int .i64 0, .int .i64 0] rfl rfl 57 _ rN2 vtSz8 rfl on2 ?_))
          clear hN2
          have qN2 := setRow_heap N2 w1.heap.size _ (#[.int .i64 0, .int .i64 0, .int .i64 0, .int .i64 0, .int .i64 0, .int .i64 0, .int .i64 0, .int .i64 0]) 57 _ rN2
          replace bN2 := tBelow_row bN2 (Nat.le_refl _) (#[.int .i64 0, .int .i64 0, .int .i64 0, .int .i64 0, .int .i64 0, .int .i64 0, .int .i64 0, .int .i64 0])
          generalize N2.setRow w1.heap.size (#[.int .i64 0, .int .i64 0, .int .i64 0, .int .i64 0, .int .i64 0, .int .i64 0, .int .i64 0, .int .i64 0]) = W2 at qN2 bN2 ⊢
          have lN2 : w1.heap.size < W2.heap.size := (Array.getElem?_eq_some_iff.1 qN2).1
          clear rN2 on2
          have d2 := d1.trans (bN2.mono d1.size)
          have tt2_0 := tt1_0.below bN2
          have rw2_p := (bN2.block _ lw1_p).trans rw1_p
          have lw2_p := Nat.lt_of_lt_of_le lw1_p bN2.size
          have rw2_r := (bN2.block _ lw1_r).trans rw1_r
          have lw2_r := Nat.lt_of_lt_of_le lw1_r bN2.size
          have sl2_x := sl1_x.below bN2
          have sl2_b := sl1_b.below bN2
          have sl2_s1 := sl1_s1.below bN2
          clear tt1_0 lw1_p rw1_p lw1_r rw1_r sl1_x sl1_b sl1_s1
          obtain ⟨gV, hgV⟩ : ∃ g, g = w1.heap.size := ⟨_, rfl⟩
          rw [← hgV] at qN2 lN2 ⊢
          clear hgV bN2
          have onR : (#[.int .i64 0, .int .i64 0, .slice none 0 0] : Array Value).all (·.oneCell') = true := by simp [Value.oneCell']
          go_wp2_with ((with_reducible (refine tpLook ?_)); (refine wpList_store_row rfl 33 (.tmp 4) (.tmp 50) rfl (w.heap.size + 1) #[.int .i64 0, .int .i64 0, .slice none 0 0] rfl rfl 33 _ rw2_r acSz3 rfl onR ?_))
          have qR := setRow_heap W2 (w.heap.size + 1) _ (#[.int .i64 0, .int .i64 0, .slice none 0 0]) 33 _ rw2_r
          have dR := tBelow_row d2 (show w.heap.size ≤ (w.heap.size + 1) by omega) (#[.int .i64 0, .int .i64 0, .slice none 0 0])
          refine bodyPost_ret (tRow2 rfl _ _ (w.heap.size + 1) 33 _ (0, 0) _ rfl qR Tryd.underlying33 rfl acSz3) rfl ?_
          rw [HD.out.1, HD.out.2]
          exact ⟨.slice none 0 0, rfl, Sv.nil0 _, dR⟩
      · have HD : Hid (donE ⟨⟨pr, pn⟩, l⟩ b = 3 ∧ donA ⟨⟨pr, pn⟩, l⟩ b = a0) := by
          exact ⟨(if_neg (fun g => H9.out g.1)).trans (if_neg (fun g => c2b g.2)), (if_neg (fun g => H9.out g.1)).trans (if_neg (fun g => c2b g.2))⟩
        generalize b.getD 0 0 = B0 at hc hx c2b
        have hB1 : (B0 == 2) = false := by simpa using c2b
        clear c2b r1 s1
        obtain ⟨W0, hW0⟩ : ∃ W0, (w.alloc (.cells #[.int .i64 pr, .int .i64 pn, .slice ax M cp] 33)).alloc (.cells #[.int .i64 0, .int .i64 0, .slice none 0 0] 33) = W0 := ⟨_, rfl⟩
        have r0_p : W0.heap[w.heap.size]? = some (.cells #[.int .i64 pr, .int .i64 pn, .slice ax M cp] 33) := by rw [← hW0]; exact t_alloc2_0 _ _ _
        have r0_r : W0.heap[w.heap.size + 1]? = some (.cells #[.int .i64 0, .int .i64 0, .slice none 0 0] 33) := by rw [← hW0]; exact t_alloc2_1 _ _ _
        have bb : Below w.heap.size w W0 := by rw [← hW0]; exact t_allocB2 _ _ _
        have l0_p : w.heap.size < W0.heap.size := (Array.getElem?_eq_some_iff.1 r0_p).1
        have l0_r : (w.heap.size + 1) < W0.heap.size := (Array.getElem?_eq_some_iff.1 r0_r).1
        have t0_0 := ht.below bb
        have sl0_x := h.below bb
        have sl0_b := hb.below bb
        go_enter Tryd.func37, Tryd.ntmps37
        have hcW : W0.cell? ⟨bd, od, none⟩ = some (.int .u8 B0) := (bb.cell (p := ⟨bd, od, none⟩) hbd).trans hc
        have hRB : w.heap.size + 1 < W0.heap.size := l0_r
        have onR : (#[.int .i64 0, .int .i64 0, .slice none 0 0] : Array Value).all (·.oneCell') = true := by simp [Value.oneCell']
        go_wp2_with ((with_reducible (refine tpLook ?_)); (refine wpList_store_row rfl 33 (.tmp 4) (.tmp 57) rfl (w.heap.size + 1) #[.int .i64 0, .int .i64 0, .slice none 0 0] rfl rfl 33 _ r0_r acSz3 rfl onR ?_))
        have qR := setRow_heap W0 (w.heap.size + 1) _ (#[.int .i64 0, .int .i64 0, .slice none 0 0]) 33 _ r0_r
        have dR := tBelow_row bb (show w.heap.size ≤ (w.heap.size + 1) by omega) (#[.int .i64 0, .int .i64 0, .slice none 0 0])
        refine bodyPost_ret (tRow2 rfl _ _ (w.heap.size + 1) 33 _ (0, 0) _ rfl qR Tryd.underlying33 rfl acSz3) rfl ?_
        rw [HD.out.1, HD.out.2]
        exact ⟨.slice none 0 0, rfl, Sv.nil0 _, dR⟩
    · have HD : Hid (donE ⟨⟨pr, pn⟩, l⟩ b = 3 ∧ donA ⟨⟨pr, pn⟩, l⟩ b = a0) := by
        exact ⟨(if_neg (fun g => c9 g.1)).trans (if_neg (fun g => c33 g.1)), (if_neg (fun g => c9 g.1)).trans (if_neg (fun g => c33 g.1))⟩
      have k33 : ((b.length : Int) == 33) = false := by simp; omega
      generalize b.length = N at k9 k33 hbl ⊢
      clear c9 c33 HB0 hb hx H9
      obtain ⟨W0, hW0⟩ : ∃ W0, (w.alloc (.cells #[.int .i64 pr, .int .i64 pn, .slice ax M cp] 33)).alloc (.cells #[.int .i64 0, .int .i64 0, .slice none 0 0] 33) = W0 := ⟨_, rfl⟩
      have r0_p : W0.heap[w.heap.size]? = some (.cells #[.int .i64 pr, .int .i64 pn, .slice ax M cp] 33) := by rw [← hW0]; exact t_alloc2_0 _ _ _
      have r0_r : W0.heap[w.heap.size + 1]? = some (.cells #[.int .i64 0, .int .i64 0, .slice none 0 0] 33) := by rw [← hW0]; exact t_alloc2_1 _ _ _
      have bb : Below w.heap.size w W0 := by rw [← hW0]; exact t_allocB2 _ _ _
      have l0_p : w.heap.size < W0.heap.size := (Array.getElem?_eq_some_iff.1 r0_p).1
      have l0_r : (w.heap.size + 1) < W0.heap.size := (Array.getElem?_eq_some_iff.1 r0_r).1
      have t0_0 := ht.below bb
      have sl0_x := h.below bb
      go_enter Tryd.func37, Tryd.ntmps37
      have hRB : w.heap.size + 1 < W0.heap.size := l0_r
      have onR : (#[.int .i64 0, .int .i64 0, .slice none 0 0] : Array Value).all (·.oneCell') = true := by simp [Value.oneCell']
      go_wp2_with ((with_reducible (refine tpLook ?_)); (refine wpList_store_row rfl 33 (.tmp 4) (.tmp 57) rfl (w.heap.size + 1) #[.int .i64 0, .int .i64 0, .slice none 0 0] rfl rfl 33 _ r0_r acSz3 rfl onR ?_))
      have qR := setRow_heap W0 (w.heap.size + 1) _ (#[.int .i64 0, .int .i64 0, .slice none 0 0]) 33 _ r0_r
      have dR := tBelow_row bb (show w.heap.size ≤ (w.heap.size + 1) by omega) (#[.int .i64 0, .int .i64 0, .slice none 0 0])
      refine bodyPost_ret (tRow2 rfl _ _ (w.heap.size + 1) 33 _ (0, 0) _ rfl qR Tryd.underlying33 rfl acSz3) rfl ?_
      rw [HD.out.1, HD.out.2]
      exact ⟨.slice none 0 0, rfl, Sv.nil0 _, dR⟩
end Go.Proofs.YthmlikljeoamgabDoor
