/-
  The walk of the document's own look at a record's body.
-/
import Derived.Test.YthmlikljeoamgaaDoorKa8
import Derived.Test.YthmlikljeoamgaaDoorKa9
import Derived.Test.YthmlikljeoamgaaDoorKa12
import Derived.Test.YthmlikljeoamgaaDoorKa21
import Derived.Test.YthmlikljeoamgaaDoorKa22
import Derived.Test.YthmlikljeoamgaaDoorKa23
namespace Go.Proofs.YthmlikljeoamgaaDoor
open Go.RowKit
set_option linter.unusedVariables false

set_option maxHeartbeats 2000000 in
set_option maxRecDepth 100000 in
theorem bodyDone_any (p : Bal) (x : Value) (l : List Vt) (v : Value) (b : List Int) (w : World) (h : Sv w x l) (hb : Sl w v b) :
    Calls Tryd.prog 36 #[.agg (acA p x), v] w fun e w' => ∃ y, e = .returned (.tuple #[.agg (acA (donA ⟨p, l⟩ b).p y), .bool (doneB ⟨p, l⟩ b).isSome]) ∧ Sv w' y (donA ⟨p, l⟩ b).vs ∧ Below w.heap.size w w' := by
  obtain ⟨pr, pn⟩ := p
  have hlen := h.len
  obtain ⟨ax, cp, rfl⟩ := h.shape
  obtain ⟨M, hM⟩ : ∃ M, l.length = M := ⟨_, rfl⟩
  have HM : Hid (l.length = M) := hM
  rw [hM] at h hlen ⊢
  clear hM
  have hbl := hb.len
  have hx := getD_byte hb.byte 0
  have HB0 : Hid (∀ k, 0 < b.length → k = 0 → ∃ bd od, v = .slice (some ⟨bd, od, none⟩) b.length (capOf v) ∧ bd < w.heap.size ∧ w.cell? ⟨bd, od + 0, none⟩ = some (.int .u8 (b.getD k 0))) := by
    intro k hp hk
    subst hk
    obtain ⟨ab, cb, rfl⟩ := hb.shapeT
    obtain ⟨bd, od, rfl, h1, h2⟩ := hb.spotO 0 hp
    exact ⟨bd, od, rfl, h1, h2⟩
  obtain ⟨ab, cb, rfl⟩ := hb.shapeT
  simp only [acA]
  by_cases c9 : b.length = 9
  · obtain ⟨bd, od, hv, hbd, hc⟩ := HB0.out 0 (by omega) rfl
    simp only [Value.slice.injEq] at hv
    obtain ⟨rfl, -, -⟩ := hv
    rw [Nat.add_zero] at hc
    clear HB0
    obtain ⟨a1, c1, r1, s1⟩ := hb.from 1 (by omega)
    have HL9 : Hid (b.length = 9) := c9
    rw [c9] at hb r1 s1 ⊢
    rw [show (9 - 1 : Nat) = 8 from rfl] at s1
    replace r1 : ∀ W, (Instr.slice 22 (.slice (some ⟨bd, od, none⟩) 9 cb) (some (.int .i64 1)) none none).run Tryd.prog W = .ok (.slice a1 8 c1) W := r1
    clear c9
    by_cases c1b : b.getD 0 0 = 1
    · have hdd : donE ⟨⟨pr, pn⟩, l⟩ b = proE ⟨⟨pr, pn⟩, l⟩ (bodyP b) ∧ donA ⟨⟨pr, pn⟩, l⟩ b = ⟨proP ⟨⟨pr, pn⟩, l⟩ (bodyP b), proL ⟨⟨pr, pn⟩, l⟩ (bodyP b)⟩ := ⟨if_pos ⟨HL9.out, c1b⟩, if_pos ⟨HL9.out, c1b⟩⟩
      obtain ⟨⟨qr, qn⟩, hP1⟩ : ∃ P1, proP ⟨⟨pr, pn⟩, l⟩ (bodyP b) = P1 := ⟨_, rfl⟩
      obtain ⟨L1, hL1⟩ : ∃ L1, proL ⟨⟨pr, pn⟩, l⟩ (bodyP b) = L1 := ⟨_, rfl⟩
      obtain ⟨E1, hE1⟩ : ∃ E1, proE ⟨⟨pr, pn⟩, l⟩ (bodyP b) = E1 := ⟨_, rfl⟩
      obtain ⟨K1, hK1⟩ : ∃ K1, L1.length = K1 := ⟨_, rfl⟩
      have HP1 : Hid (proP ⟨⟨pr, pn⟩, l⟩ (bodyP b) = ⟨qr, qn⟩ ∧ proL ⟨⟨pr, pn⟩, l⟩ (bodyP b) = L1 ∧ proE ⟨⟨pr, pn⟩, l⟩ (bodyP b) = E1 ∧ L1.length = K1) := ⟨hP1, hL1, hE1, hK1⟩
      have HD : Hid ((doneB ⟨⟨pr, pn⟩, l⟩ b).isSome = (E1 == 0) ∧ donA ⟨⟨pr, pn⟩, l⟩ b = ⟨⟨qr, qn⟩, L1⟩) := by
        rw [hP1, hL1, hE1] at hdd
        refine ⟨?_, hdd.2⟩
        rw [doneB_eq, hdd.1]
        by_cases h0 : E1 = 0
        · rw [if_pos h0, beq_decide0, decide_eq_true h0]; rfl
        · rw [if_neg h0, beq_decide0, decide_eq_false h0]; rfl
      rw [c1b] at hc
      clear hdd hP1 hL1 hE1 hK1 c1b hx
      obtain ⟨W0, hW0⟩ : ∃ W0, (w.alloc (.cells #[.int .i64 pr, .int .i64 pn, .slice ax M cp] 41)).alloc (.cells #[.int .i64 0, .int .i64 0, .slice none 0 0] 41) = W0 := ⟨_, rfl⟩
      have r0_p : W0.heap[w.heap.size]? = some (.cells #[.int .i64 pr, .int .i64 pn, .slice ax M cp] 41) := by rw [← hW0]; exact t_alloc2_0 _ _ _
      have r0_r : W0.heap[w.heap.size + 1]? = some (.cells #[.int .i64 0, .int .i64 0, .slice none 0 0] 41) := by rw [← hW0]; exact t_alloc2_1 _ _ _
      have bb : Below w.heap.size w W0 := by rw [← hW0]; exact t_allocB2 _ _ _
      have l0_p : w.heap.size < W0.heap.size := (Array.getElem?_eq_some_iff.1 r0_p).1
      have l0_r : (w.heap.size + 1) < W0.heap.size := (Array.getElem?_eq_some_iff.1 r0_r).1
      have sl0_x := h.below bb
      have sl0_b := hb.below bb
      go_enter Tryd.func36, Tryd.ntmps36
      have hcW : W0.cell? ⟨bd, od, none⟩ = some (.int .u8 1) := (bb.cell (p := ⟨bd, od, none⟩) hbd).trans hc
      have hRB : w.heap.size + 1 < W0.heap.size := l0_r
      have hr_p : W0.rangeAt w.heap.size 0 [.int .i64 pr, .int .i64 pn, .slice ax M cp] := tOne_range (cs := [.int .i64 pr, .int .i64 pn, .slice ax M cp]) r0_p
      go_wp2_with fail
      clear hW0 hcW
      apply t_mergeG (fun g a c z Wz => Wz.heap[g]? = some (.cells #[.int .i64 qr, .int .i64 qn, .slice a K1 c] 41) ∧ Sv Wz (.slice a K1 c) L1 ∧ Below W0.heap.size W0 Wz)
      · intro K2 HK2
        have ed : Below W0.heap.size W0 W0.drew := (Below.refl _ _).drew
        refine wp_region_held (S := fun w' => Below W0.heap.size W0 w') (by kernel_rfl) ?_
        refine heldTake (i := 0) 23 (v := .agg #[.int .i64 pr, .int .i64 pn, .slice ax M cp]) rfl rfl (by kernel_rfl) (by kernel_rfl) (by kernel_rfl) (fun _ _ _ h => h) (yieldsIf_load_mid (by rfl) 41 (.tmp 2) rfl w.heap.size 0 rfl [.int .i64 pr, .int .i64 pn, .slice ax M cp] _ (fun w' hw' => tRange hw' l0_p hr_p) Tryd.underlying41 rfl acSz3) ed ?_
        simp only [Act.put, List.setIfInBounds_toArray, List.set_cons_zero, List.set_cons_succ]
        refine heldTake (i := 1) 24 (v := .slice (some ⟨bd, od, none⟩) 9 cb) rfl rfl (by kernel_rfl) (by kernel_rfl) (by kernel_rfl) (fun _ _ _ h => h) (Or.inl ⟨by rfl, fun _ _ => by kernel_rfl⟩) ed ?_
        simp only [Act.put, List.setIfInBounds_toArray, List.set_cons_zero, List.set_cons_succ]
        refine heldTake (i := 3) 26 (v := .slice (some ⟨bd, od, none⟩) 9 cb) rfl rfl (by kernel_rfl) (by kernel_rfl) (by kernel_rfl) (fun _ _ _ h => h) (Or.inl ⟨by rfl, fun _ _ => by kernel_rfl⟩) ed ?_
        simp only [Act.put, List.setIfInBounds_toArray, List.set_cons_zero, List.set_cons_succ]
        refine heldTwo (i := 2) (i' := 11) (by kernel_rfl) ?_ ?_
        · refine (opCall (i := 2) (d := 25) (f := 59) (args := #[.slice (some ⟨bd, od, none⟩) 9 cb, .int .i64 1]) rfl (by kernel_rfl) rfl (by kernel_rfl) ((fourHigh_any (.slice (some ⟨bd, od, none⟩) 9 cb) b 1 W0.drew (sl0_b.below ed) (by rw [HL9.out]; decide)).mono ?_))
          rintro e' wc1 ⟨rfl, n1, hn1⟩
          have bc1 : Below W0.drew.heap.size W0.drew wc1 := by rw [hn1]; exact below_drewN (Below.refl _ _) n1
          have ec1 : Below W0.heap.size W0 wc1 := ed.trans (bc1.mono ed.size)
          refine ⟨_, rfl, ec1, ?_⟩
          simp only [Act.put, List.setIfInBounds_toArray, List.set_cons_zero, List.set_cons_succ]
          refine heldTwo (i := 4) (i' := 11) (by kernel_rfl) ?_ ?_
          · refine (opCall (i := 4) (d := 27) (f := 59) (args := #[.slice (some ⟨bd, od, none⟩) 9 cb, .int .i64 5]) rfl (by kernel_rfl) rfl (by kernel_rfl) ((fourHigh_any (.slice (some ⟨bd, od, none⟩) 9 cb) b 5 wc1 (sl0_b.below ec1) (by rw [HL9.out]; decide)).mono ?_))
            rintro e' wc2 ⟨rfl, n2, hn2⟩
            have bc2 : Below wc1.heap.size wc1 wc2 := by rw [hn2]; exact below_drewN (Below.refl _ _) n2
            have ec2 : Below W0.heap.size W0 wc2 := ec1.trans (bc2.mono ec1.size)
            refine ⟨_, rfl, ec2, ?_⟩
            simp only [Act.put, List.setIfInBounds_toArray, List.set_cons_zero, List.set_cons_succ]
            refine heldTake (i := 5) 28 (v := .agg #[.int .i64 (numA b 1), .int .i64 (numA b 5)]) rfl rfl (by kernel_rfl) (by kernel_rfl) (by kernel_rfl) (fun _ _ _ h => h) (Or.inl ⟨by rfl, fun _ _ => by kernel_rfl⟩) ec2 ?_
            simp only [Act.put, List.setIfInBounds_toArray, List.set_cons_zero, List.set_cons_succ]
            refine heldTwo (i := 6) (i' := 11) (by kernel_rfl) ?_ ?_
            · refine (opCall (i := 6) (d := 29) (f := 58) (args := #[.agg #[.int .i64 pr, .int .i64 pn, .slice ax M cp], .agg #[.int .i64 (numA b 1), .int .i64 (numA b 5)]]) rfl (by kernel_rfl) rfl (by kernel_rfl) ((promisedTo_any ⟨pr, pn⟩ (.slice ax M cp) l (bodyP b) wc2 (sl0_x.below ec2)).mono ?_))
              rintro e' wc3 ⟨y3, z3, rfl, sy3, sz3, bc3⟩
              rw [HP1.out.1, HP1.out.2.2.1]
              rw [HP1.out.2.1] at sy3
              obtain ⟨ay3, cy3, hy3⟩ := sy3.shape
              rw [HP1.out.2.2.2] at hy3
              subst hy3
              simp only [acA]
              have ec3 : Below W0.heap.size W0 wc3 := ec2.trans (bc3.mono ec2.size)
              refine ⟨_, rfl, ec3, ?_⟩
              simp only [Act.put, List.setIfInBounds_toArray, List.set_cons_zero, List.set_cons_succ]
              refine heldTake (i := 7) 22 (v := .tuple #[.agg #[.int .i64 qr, .int .i64 qn, .slice ay3 K1 cy3], z3, .int .i64 E1]) rfl rfl (by kernel_rfl) (by kernel_rfl) (by kernel_rfl) (fun _ _ _ h => h) (Or.inl ⟨by rfl, fun _ _ => by kernel_rfl⟩) ec3 ?_
              simp only [Act.put, List.setIfInBounds_toArray, List.set_cons_zero, List.set_cons_succ]
              refine heldTake (i := 8) 30 (v := .agg #[.int .i64 qr, .int .i64 qn, .slice ay3 K1 cy3]) rfl rfl (by kernel_rfl) (by kernel_rfl) (by kernel_rfl) (fun _ _ _ h => h) (Or.inl ⟨by rfl, fun _ _ => by kernel_rfl⟩) ec3 ?_
              simp only [Act.put, List.setIfInBounds_toArray, List.set_cons_zero, List.set_cons_succ]
              refine heldTake (i := 9) 31 (v := z3) rfl rfl (by kernel_rfl) (by kernel_rfl) (by kernel_rfl) (fun _ _ _ h => h) (Or.inl ⟨by rfl, fun _ _ => by kernel_rfl⟩) ec3 ?_
              simp only [Act.put, List.setIfInBounds_toArray, List.set_cons_zero, List.set_cons_succ]
              refine heldTake (i := 10) 32 (v := .int .i64 E1) rfl rfl (by kernel_rfl) (by kernel_rfl) (by kernel_rfl) (fun _ _ _ h => h) (Or.inl ⟨by rfl, fun _ _ => by kernel_rfl⟩) ec3 ?_
              simp only [Act.put, List.setIfInBounds_toArray, List.set_cons_zero, List.set_cons_succ]
              obtain ⟨gv4, hgv4⟩ : ∃ g, g = wc3.heap.size := ⟨_, rfl⟩
              have aG4 : Below wc3.heap.size wc3 (wc3.alloc (.cells #[.int .i64 0, .int .i64 0, .slice none 0 0] 41)) := (Below.refl _ _).alloc (Nat.le_refl _) _
              have eG4 : Below W0.heap.size W0 (wc3.alloc (.cells #[.int .i64 0, .int .i64 0, .slice none 0 0] 41)) := ec3.trans (aG4.mono ec3.size)
              have rG4 : (wc3.alloc (.cells #[.int .i64 0, .int .i64 0, .slice none 0 0] 41)).heap[gv4]? = some (.cells #[.int .i64 0, .int .i64 0, .slice none 0 0] 41) := by rw [hgv4]; exact heap_alloc_new _ _
              have hgle4 : W0.heap.size ≤ gv4 := by rw [hgv4]; exact ec3.size
              have sy_4 := sy3.below aG4
              refine heldOne (i := 11) (by kernel_rfl) (opRun (i := 11) (d := 6) (v := .pointer (some ⟨gv4, 0, none⟩)) (w' := wc3.alloc (.cells #[.int .i64 0, .int .i64 0, .slice none 0 0] 41)) rfl (by kernel_rfl) rfl (by rw [hgv4]; kernel_rfl) ⟨eG4, ?_⟩)
              simp only [Act.put, List.setIfInBounds_toArray, List.set_cons_zero, List.set_cons_succ]
              have hone5 : (#[.int .i64 qr, .int .i64 qn, .slice ay3 K1 cy3] : Array Value).all (·.oneCell') = true := by simp [Value.oneCell']
              refine heldOne (i := 12) (by kernel_rfl) (opStore (i := 12) rfl (by kernel_rfl) rfl 41 (.tmp 6) (.tmp 30) rfl gv4 #[.int .i64 qr, .int .i64 qn, .slice ay3 K1 cy3] (by kernel_rfl) (by kernel_rfl) 41 _ rG4 acSz3 rfl hone5 ⟨tBelow_row eG4 hgle4 _, ?_⟩)
              have eS5 := tBelow_row eG4 hgle4 (#[.int .i64 qr, .int .i64 qn, .slice ay3 K1 cy3])
              have rS5 := setRow_heap _ gv4 _ (#[.int .i64 qr, .int .i64 qn, .slice ay3 K1 cy3]) 41 _ rG4
              have sy_5 := sy_4.otherRow rG4 (by simp) (#[.int .i64 qr, .int .i64 qn, .slice ay3 K1 cy3])
              refine heldTake (i := 13) 7 (v := z3) rfl rfl (by kernel_rfl) (by kernel_rfl) (by kernel_rfl) (fun _ _ _ h => h) (Or.inl ⟨by rfl, fun _ _ => by kernel_rfl⟩) eS5 ?_
              simp only [Act.put, List.setIfInBounds_toArray, List.set_cons_zero, List.set_cons_succ]
              refine heldTake (i := 14) 8 (v := .int .i64 E1) rfl rfl (by kernel_rfl) (by kernel_rfl) (by kernel_rfl) (fun _ _ _ h => h) (Or.inl ⟨by rfl, fun _ _ => by kernel_rfl⟩) eS5 ?_
              simp only [Act.put, List.setIfInBounds_toArray, List.set_cons_zero, List.set_cons_succ]
              exact wpAnyH_done (by kernel_rfl) (HK2.out gv4 ay3 cy3 z3 _ ⟨rS5, sy_5, eS5⟩) _
            · obtain ⟨gv6, hgv6⟩ : ∃ g, g = wc2.heap.size := ⟨_, rfl⟩
              have aG6 : Below wc2.heap.size wc2 (wc2.alloc (.cells #[.int .i64 0, .int .i64 0, .slice none 0 0] 41)) := (Below.refl _ _).alloc (Nat.le_refl _) _
              have eG6 : Below W0.heap.size W0 (wc2.alloc (.cells #[.int .i64 0, .int .i64 0, .slice none 0 0] 41)) := ec2.trans (aG6.mono ec2.size)
              have rG6 : (wc2.alloc (.cells #[.int .i64 0, .int .i64 0, .slice none 0 0] 41)).heap[gv6]? = some (.cells #[.int .i64 0, .int .i64 0, .slice none 0 0] 41) := by rw [hgv6]; exact heap_alloc_new _ _
              have hgle6 : W0.heap.size ≤ gv6 := by rw [hgv6]; exact ec2.size
              refine (opRun (i := 11) (d := 6) (v := .pointer (some ⟨gv6, 0, none⟩)) (w' := wc2.alloc (.cells #[.int .i64 0, .int .i64 0, .slice none 0 0] 41)) rfl (by kernel_rfl) rfl (by rw [hgv6]; kernel_rfl) ⟨eG6, ?_⟩)
              simp only [Act.put, List.setIfInBounds_toArray, List.set_cons_zero, List.set_cons_succ]
              refine heldOne (i := 6) (by kernel_rfl) (opCall (i := 6) (d := 29) (f := 58) (args := #[.agg #[.int .i64 pr, .int .i64 pn, .slice ax M cp], .agg #[.int .i64 (numA b 1), .int .i64 (numA b 5)]]) rfl (by kernel_rfl) rfl (by kernel_rfl) ((promisedTo_any ⟨pr, pn⟩ (.slice ax M cp) l (bodyP b) (wc2.alloc (.cells #[.int .i64 0, .int .i64 0, .slice none 0 0] 41)) (sl0_x.below eG6)).mono ?_))
              rintro e' wc7 ⟨y7, z7, rfl, sy7, sz7, bc7⟩
              rw [HP1.out.1, HP1.out.2.2.1]
              rw [HP1.out.2.1] at sy7
              obtain ⟨ay7, cy7, hy7⟩ := sy7.shape
              rw [HP1.out.2.2.2] at hy7
              subst hy7
              simp only [acA]
              have ec7 : Below W0.heap.size W0 wc7 := eG6.trans (bc7.mono eG6.size)
              have rg7 := (bc7.block _ (Array.getElem?_eq_some_iff.1 rG6).1).trans rG6
              refine ⟨_, rfl, ec7, ?_⟩
              simp only [Act.put, List.setIfInBounds_toArray, List.set_cons_zero, List.set_cons_succ]
              refine heldTake (i := 7) 22 (v := .tuple #[.agg #[.int .i64 qr, .int .i64 qn, .slice ay7 K1 cy7], z7, .int .i64 E1]) rfl rfl (by kernel_rfl) (by kernel_rfl) (by kernel_rfl) (fun _ _ _ h => h) (Or.inl ⟨by rfl, fun _ _ => by kernel_rfl⟩) ec7 ?_
              simp only [Act.put, List.setIfInBounds_toArray, List.set_cons_zero, List.set_cons_succ]
              refine heldTake (i := 8) 30 (v := .agg #[.int .i64 qr, .int .i64 qn, .slice ay7 K1 cy7]) rfl rfl (by kernel_rfl) (by kernel_rfl) (by kernel_rfl) (fun _ _ _ h => h) (Or.inl ⟨by rfl, fun _ _ => by kernel_rfl⟩) ec7 ?_
              simp only [Act.put, List.setIfInBounds_toArray, List.set_cons_zero, List.set_cons_succ]
              refine heldTake (i := 9) 31 (v := z7) rfl rfl (by kernel_rfl) (by kernel_rfl) (by kernel_rfl) (fun _ _ _ h => h) (Or.inl ⟨by rfl, fun _ _ => by kernel_rfl⟩) ec7 ?_
              simp only [Act.put, List.setIfInBounds_toArray, List.set_cons_zero, List.set_cons_succ]
              refine heldTake (i := 10) 32 (v := .int .i64 E1) rfl rfl (by kernel_rfl) (by kernel_rfl) (by kernel_rfl) (fun _ _ _ h => h) (Or.inl ⟨by rfl, fun _ _ => by kernel_rfl⟩) ec7 ?_
              simp only [Act.put, List.setIfInBounds_toArray, List.set_cons_zero, List.set_cons_succ]
              have hone8 : (#[.int .i64 qr, .int .i64 qn, .slice ay7 K1 cy7] : Array Value).all (·.oneCell') = true := by simp [Value.oneCell']
              refine heldOne (i := 12) (by kernel_rfl) (opStore (i := 12) rfl (by kernel_rfl) rfl 41 (.tmp 6) (.tmp 30) rfl gv6 #[.int .i64 qr, .int .i64 qn, .slice ay7 K1 cy7] (by kernel_rfl) (by kernel_rfl) 41 _ rg7 acSz3 rfl hone8 ⟨tBelow_row ec7 hgle6 _, ?_⟩)
              have eS8 := tBelow_row ec7 hgle6 (#[.int .i64 qr, .int .i64 qn, .slice ay7 K1 cy7])
              have rS8 := setRow_heap _ gv6 _ (#[.int .i64 qr, .int .i64 qn, .slice ay7 K1 cy7]) 41 _ rg7
              have sy_8 := sy7.otherRow rg7 (by simp) (#[.int .i64 qr, .int .i64 qn, .slice ay7 K1 cy7])
              refine heldTake (i := 13) 7 (v := z7) rfl rfl (by kernel_rfl) (by kernel_rfl) (by kernel_rfl) (fun _ _ _ h => h) (Or.inl ⟨by rfl, fun _ _ => by kernel_rfl⟩) eS8 ?_
              simp only [Act.put, List.setIfInBounds_toArray, List.set_cons_zero, List.set_cons_succ]
              refine heldTake (i := 14) 8 (v := .int .i64 E1) rfl rfl (by kernel_rfl) (by kernel_rfl) (by kernel_rfl) (fun _ _ _ h => h) (Or.inl ⟨by rfl, fun _ _ => by kernel_rfl⟩) eS8 ?_
              simp only [Act.put, List.setIfInBounds_toArray, List.set_cons_zero, List.set_cons_succ]
              exact wpAnyH_done (by kernel_rfl) (HK2.out gv6 ay7 cy7 z7 _ ⟨rS8, sy_8, eS8⟩) _
          · obtain ⟨gv9, hgv9⟩ : ∃ g, g = wc1.heap.size := ⟨_, rfl⟩
            have aG9 : Below wc1.heap.size wc1 (wc1.alloc (.cells #[.int .i64 0, .int .i64 0, .slice none 0 0] 41)) := (Below.refl _ _).alloc (Nat.le_refl _) _
            have eG9 : Below W0.heap.size W0 (wc1.alloc (.cells #[.int .i64 0, .int .i64 0, .slice none 0 0] 41)) := ec1.trans (aG9.mono ec1.size)
            have rG9 : (wc1.alloc (.cells #[.int .i64 0, .int .i64 0, .slice none 0 0] 41)).heap[gv9]? = some (.cells #[.int .i64 0, .int .i64 0, .slice none 0 0] 41) := by rw [hgv9]; exact heap_alloc_new _ _
            have hgle9 : W0.heap.size ≤ gv9 := by rw [hgv9]; exact ec1.size
            refine (opRun (i := 11) (d := 6) (v := .pointer (some ⟨gv9, 0, none⟩)) (w' := wc1.alloc (.cells #[.int .i64 0, .int .i64 0, .slice none 0 0] 41)) rfl (by kernel_rfl) rfl (by rw [hgv9]; kernel_rfl) ⟨eG9, ?_⟩)
            simp only [Act.put, List.setIfInBounds_toArray, List.set_cons_zero, List.set_cons_succ]
            refine heldOne (i := 4) (by kernel_rfl) (opCall (i := 4) (d := 27) (f := 59) (args := #[.slice (some ⟨bd, od, none⟩) 9 cb, .int .i64 5]) rfl (by kernel_rfl) rfl (by kernel_rfl) ((fourHigh_any (.slice (some ⟨bd, od, none⟩) 9 cb) b 5 (wc1.alloc (.cells #[.int .i64 0, .int .i64 0, .slice none 0 0] 41)) (sl0_b.below eG9) (by rw [HL9.out]; decide)).mono ?_))
            rintro e' wc10 ⟨rfl, n10, hn10⟩
            have bc10 : Below (wc1.alloc (.cells #[.int .i64 0, .int .i64 0, .slice none 0 0] 41)).heap.size (wc1.alloc (.cells #[.int .i64 0, .int .i64 0, .slice none 0 0] 41)) wc10 := by rw [hn10]; exact below_drewN (Below.refl _ _) n10
            have ec10 : Below W0.heap.size W0 wc10 := eG9.trans (bc10.mono eG9.size)
            have rg10 := (bc10.block _ (Array.getElem?_eq_some_iff.1 rG9).1).trans rG9
            refine ⟨_, rfl, ec10, ?_⟩
            simp only [Act.put, List.setIfInBounds_toArray, List.set_cons_zero, List.set_cons_succ]
            refine heldTake (i := 5) 28 (v := .agg #[.int .i64 (numA b 1), .int .i64 (numA b 5)]) rfl rfl (by kernel_rfl) (by kernel_rfl) (by kernel_rfl) (fun _ _ _ h => h) (Or.inl ⟨by rfl, fun _ _ => by kernel_rfl⟩) ec10 ?_
            simp only [Act.put, List.setIfInBounds_toArray, List.set_cons_zero, List.set_cons_succ]
            refine heldOne (i := 6) (by kernel_rfl) (opCall (i := 6) (d := 29) (f := 58) (args := #[.agg #[.int .i64 pr, .int .i64 pn, .slice ax M cp], .agg #[.int .i64 (numA b 1), .int .i64 (numA b 5)]]) rfl (by kernel_rfl) rfl (by kernel_rfl) ((promisedTo_any ⟨pr, pn⟩ (.slice ax M cp) l (bodyP b) wc10 (sl0_x.below ec10)).mono ?_))
            rintro e' wc11 ⟨y11, z11, rfl, sy11, sz11, bc11⟩
            rw [HP1.out.1, HP1.out.2.2.1]
            rw [HP1.out.2.1] at sy11
            obtain ⟨ay11, cy11, hy11⟩ := sy11.shape
            rw [HP1.out.2.2.2] at hy11
            subst hy11
            simp only [acA]
            have ec11 : Below W0.heap.size W0 wc11 := ec10.trans (bc11.mono ec10.size)
            have rg11 := (bc11.block _ (Array.getElem?_eq_some_iff.1 rg10).1).trans rg10
            refine ⟨_, rfl, ec11, ?_⟩
            simp only [Act.put, List.setIfInBounds_toArray, List.set_cons_zero, List.set_cons_succ]
            refine heldTake (i := 7) 22 (v := .tuple #[.agg #[.int .i64 qr, .int .i64 qn, .slice ay11 K1 cy11], z11, .int .i64 E1]) rfl rfl (by kernel_rfl) (by kernel_rfl) (by kernel_rfl) (fun _ _ _ h => h) (Or.inl ⟨by rfl, fun _ _ => by kernel_rfl⟩) ec11 ?_
            simp only [Act.put, List.setIfInBounds_toArray, List.set_cons_zero, List.set_cons_succ]
            refine heldTake (i := 8) 30 (v := .agg #[.int .i64 qr, .int .i64 qn, .slice ay11 K1 cy11]) rfl rfl (by kernel_rfl) (by kernel_rfl) (by kernel_rfl) (fun _ _ _ h => h) (Or.inl ⟨by rfl, fun _ _ => by kernel_rfl⟩) ec11 ?_
            simp only [Act.put, List.setIfInBounds_toArray, List.set_cons_zero, List.set_cons_succ]
            refine heldTake (i := 9) 31 (v := z11) rfl rfl (by kernel_rfl) (by kernel_rfl) (by kernel_rfl) (fun _ _ _ h => h) (Or.inl ⟨by rfl, fun _ _ => by kernel_rfl⟩) ec11 ?_
            simp only [Act.put, List.setIfInBounds_toArray, List.set_cons_zero, List.set_cons_succ]
            refine heldTake (i := 10) 32 (v := .int .i64 E1) rfl rfl (by kernel_rfl) (by kernel_rfl) (by kernel_rfl) (fun _ _ _ h => h) (Or.inl ⟨by rfl, fun _ _ => by kernel_rfl⟩) ec11 ?_
            simp only [Act.put, List.setIfInBounds_toArray, List.set_cons_zero, List.set_cons_succ]
            have hone12 : (#[.int .i64 qr, .int .i64 qn, .slice ay11 K1 cy11] : Array Value).all (·.oneCell') = true := by simp [Value.oneCell']
            refine heldOne (i := 12) (by kernel_rfl) (opStore (i := 12) rfl (by kernel_rfl) rfl 41 (.tmp 6) (.tmp 30) rfl gv9 #[.int .i64 qr, .int .i64 qn, .slice ay11 K1 cy11] (by kernel_rfl) (by kernel_rfl) 41 _ rg11 acSz3 rfl hone12 ⟨tBelow_row ec11 hgle9 _, ?_⟩)
            have eS12 := tBelow_row ec11 hgle9 (#[.int .i64 qr, .int .i64 qn, .slice ay11 K1 cy11])
            have rS12 := setRow_heap _ gv9 _ (#[.int .i64 qr, .int .i64 qn, .slice ay11 K1 cy11]) 41 _ rg11
            have sy_12 := sy11.otherRow rg11 (by simp) (#[.int .i64 qr, .int .i64 qn, .slice ay11 K1 cy11])
            refine heldTake (i := 13) 7 (v := z11) rfl rfl (by kernel_rfl) (by kernel_rfl) (by kernel_rfl) (fun _ _ _ h => h) (Or.inl ⟨by rfl, fun _ _ => by kernel_rfl⟩) eS12 ?_
            simp only [Act.put, List.setIfInBounds_toArray, List.set_cons_zero, List.set_cons_succ]
            refine heldTake (i := 14) 8 (v := .int .i64 E1) rfl rfl (by kernel_rfl) (by kernel_rfl) (by kernel_rfl) (fun _ _ _ h => h) (Or.inl ⟨by rfl, fun _ _ => by kernel_rfl⟩) eS12 ?_
            simp only [Act.put, List.setIfInBounds_toArray, List.set_cons_zero, List.set_cons_succ]
            exact wpAnyH_done (by kernel_rfl) (HK2.out gv9 ay11 cy11 z11 _ ⟨rS12, sy_12, eS12⟩) _
        · obtain ⟨gv13, hgv13⟩ : ∃ g, g = W0.drew.heap.size := ⟨_, rfl⟩
          have aG13 : Below W0.drew.heap.size W0.drew (W0.drew.alloc (.cells #[.int .i64 0, .int .i64 0, .slice none 0 0] 41)) := (Below.refl _ _).alloc (Nat.le_refl _) _
          have eG13 : Below W0.heap.size W0 (W0.drew.alloc (.cells #[.int .i64 0, .int .i64 0, .slice none 0 0] 41)) := ed.trans (aG13.mono ed.size)
          have rG13 : (W0.drew.alloc (.cells #[.int .i64 0, .int .i64 0, .slice none 0 0] 41)).heap[gv13]? = some (.cells #[.int .i64 0, .int .i64 0, .slice none 0 0] 41) := by rw [hgv13]; exact heap_alloc_new _ _
          have hgle13 : W0.heap.size ≤ gv13 := by rw [hgv13]; exact ed.size
          refine (opRun (i := 11) (d := 6) (v := .pointer (some ⟨gv13, 0, none⟩)) (w' := W0.drew.alloc (.cells #[.int .i64 0, .int .i64 0, .slice none 0 0] 41)) rfl (by kernel_rfl) rfl (by rw [hgv13]; kernel_rfl) ⟨eG13, ?_⟩)
          simp only [Act.put, List.setIfInBounds_toArray, List.set_cons_zero, List.set_cons_succ]
          refine heldOne (i := 2) (by kernel_rfl) (opCall (i := 2) (d := 25) (f := 59) (args := #[.slice (some ⟨bd, od, none⟩) 9 cb, .int .i64 1]) rfl (by kernel_rfl) rfl (by kernel_rfl) ((fourHigh_any (.slice (some ⟨bd, od, none⟩) 9 cb) b 1 (W0.drew.alloc (.cells #[.int .i64 0, .int .i64 0, .slice none 0 0] 41)) (sl0_b.below eG13) (by rw [HL9.out]; decide)).mono ?_))
          rintro e' wc14 ⟨rfl, n14, hn14⟩
          have bc14 : Below (W0.drew.alloc (.cells #[.int .i64 0, .int .i64 0, .slice none 0 0] 41)).heap.size (W0.drew.alloc (.cells #[.int .i64 0, .int .i64 0, .slice none 0 0] 41)) wc14 := by rw [hn14]; exact below_drewN (Below.refl _ _) n14
          have ec14 : Below W0.heap.size W0 wc14 := eG13.trans (bc14.mono eG13.size)
          have rg14 := (bc14.block _ (Array.getElem?_eq_some_iff.1 rG13).1).trans rG13
          refine ⟨_, rfl, ec14, ?_⟩
          simp only [Act.put, List.setIfInBounds_toArray, List.set_cons_zero, List.set_cons_succ]
          refine heldOne (i := 4) (by kernel_rfl) (opCall (i := 4) (d := 27) (f := 59) (args := #[.slice (some ⟨bd, od, none⟩) 9 cb, .int .i64 5]) rfl (by kernel_rfl) rfl (by kernel_rfl) ((fourHigh_any (.slice (some ⟨bd, od, none⟩) 9 cb) b 5 wc14 (sl0_b.below ec14) (by rw [HL9.out]; decide)).mono ?_))
          rintro e' wc15 ⟨rfl, n15, hn15⟩
          have bc15 : Below wc14.heap.size wc14 wc15 := by rw [hn15]; exact below_drewN (Below.refl _ _) n15
          have ec15 : Below W0.heap.size W0 wc15 := ec14.trans (bc15.mono ec14.size)
          have rg15 := (bc15.block _ (Array.getElem?_eq_some_iff.1 rg14).1).trans rg14
          refine ⟨_, rfl, ec15, ?_⟩
          simp only [Act.put, List.setIfInBounds_toArray, List.set_cons_zero, List.set_cons_succ]
          refine heldTake (i := 5) 28 (v := .agg #[.int .i64 (numA b 1), .int .i64 (numA b 5)]) rfl rfl (by kernel_rfl) (by kernel_rfl) (by kernel_rfl) (fun _ _ _ h => h) (Or.inl ⟨by rfl, fun _ _ => by kernel_rfl⟩) ec15 ?_
          simp only [Act.put, List.setIfInBounds_toArray, List.set_cons_zero, List.set_cons_succ]
          refine heldOne (i := 6) (by kernel_rfl) (opCall (i := 6) (d := 29) (f := 58) (args := #[.agg #[.int .i64 pr, .int .i64 pn, .slice ax M cp], .agg #[.int .i64 (numA b 1), .int .i64 (numA b 5)]]) rfl (by kernel_rfl) rfl (by kernel_rfl) ((promisedTo_any ⟨pr, pn⟩ (.slice ax M cp) l (bodyP b) wc15 (sl0_x.below ec15)).mono ?_))
          rintro e' wc16 ⟨y16, z16, rfl, sy16, sz16, bc16⟩
          rw [HP1.out.1, HP1.out.2.2.1]
          rw [HP1.out.2.1] at sy16
          obtain ⟨ay16, cy16, hy16⟩ := sy16.shape
          rw [HP1.out.2.2.2] at hy16
          subst hy16
          simp only [acA]
          have ec16 : Below W0.heap.size W0 wc16 := ec15.trans (bc16.mono ec15.size)
          have rg16 := (bc16.block _ (Array.getElem?_eq_some_iff.1 rg15).1).trans rg15
          refine ⟨_, rfl, ec16, ?_⟩
          simp only [Act.put, List.setIfInBounds_toArray, List.set_cons_zero, List.set_cons_succ]
          refine heldTake (i := 7) 22 (v := .tuple #[.agg #[.int .i64 qr, .int .i64 qn, .slice ay16 K1 cy16], z16, .int .i64 E1]) rfl rfl (by kernel_rfl) (by kernel_rfl) (by kernel_rfl) (fun _ _ _ h => h) (Or.inl ⟨by rfl, fun _ _ => by kernel_rfl⟩) ec16 ?_
          simp only [Act.put, List.setIfInBounds_toArray, List.set_cons_zero, List.set_cons_succ]
          refine heldTake (i := 8) 30 (v := .agg #[.int .i64 qr, .int .i64 qn, .slice ay16 K1 cy16]) rfl rfl (by kernel_rfl) (by kernel_rfl) (by kernel_rfl) (fun _ _ _ h => h) (Or.inl ⟨by rfl, fun _ _ => by kernel_rfl⟩) ec16 ?_
          simp only [Act.put, List.setIfInBounds_toArray, List.set_cons_zero, List.set_cons_succ]
          refine heldTake (i := 9) 31 (v := z16) rfl rfl (by kernel_rfl) (by kernel_rfl) (by kernel_rfl) (fun _ _ _ h => h) (Or.inl ⟨by rfl, fun _ _ => by kernel_rfl⟩) ec16 ?_
          simp only [Act.put, List.setIfInBounds_toArray, List.set_cons_zero, List.set_cons_succ]
          refine heldTake (i := 10) 32 (v := .int .i64 E1) rfl rfl (by kernel_rfl) (by kernel_rfl) (by kernel_rfl) (fun _ _ _ h => h) (Or.inl ⟨by rfl, fun _ _ => by kernel_rfl⟩) ec16 ?_
          simp only [Act.put, List.setIfInBounds_toArray, List.set_cons_zero, List.set_cons_succ]
          have hone17 : (#[.int .i64 qr, .int .i64 qn, .slice ay16 K1 cy16] : Array Value).all (·.oneCell') = true := by simp [Value.oneCell']
          refine heldOne (i := 12) (by kernel_rfl) (opStore (i := 12) rfl (by kernel_rfl) rfl 41 (.tmp 6) (.tmp 30) rfl gv13 #[.int .i64 qr, .int .i64 qn, .slice ay16 K1 cy16] (by kernel_rfl) (by kernel_rfl) 41 _ rg16 acSz3 rfl hone17 ⟨tBelow_row ec16 hgle13 _, ?_⟩)
          have eS17 := tBelow_row ec16 hgle13 (#[.int .i64 qr, .int .i64 qn, .slice ay16 K1 cy16])
          have rS17 := setRow_heap _ gv13 _ (#[.int .i64 qr, .int .i64 qn, .slice ay16 K1 cy16]) 41 _ rg16
          have sy_17 := sy16.otherRow rg16 (by simp) (#[.int .i64 qr, .int .i64 qn, .slice ay16 K1 cy16])
          refine heldTake (i := 13) 7 (v := z16) rfl rfl (by kernel_rfl) (by kernel_rfl) (by kernel_rfl) (fun _ _ _ h => h) (Or.inl ⟨by rfl, fun _ _ => by kernel_rfl⟩) eS17 ?_
          simp only [Act.put, List.setIfInBounds_toArray, List.set_cons_zero, List.set_cons_succ]
          refine heldTake (i := 14) 8 (v := .int .i64 E1) rfl rfl (by kernel_rfl) (by kernel_rfl) (by kernel_rfl) (fun _ _ _ h => h) (Or.inl ⟨by rfl, fun _ _ => by kernel_rfl⟩) eS17 ?_
          simp only [Act.put, List.setIfInBounds_toArray, List.set_cons_zero, List.set_cons_succ]
          exact wpAnyH_done (by kernel_rfl) (HK2.out gv13 ay16 cy16 z16 _ ⟨rS17, sy_17, eS17⟩) _
      rintro g a c z Wz ⟨qg, sg, eg⟩
      have rz_r := (eg.block _ l0_r).trans r0_r
      have lz_r := Nat.lt_of_lt_of_le l0_r eg.size
      have dz := bb.trans (eg.mono bb.size)
      clear hr_p r0_p r0_r
      have onR : (#[.int .i64 qr, .int .i64 qn, .slice a K1 c] : Array Value).all (·.oneCell') = true := by simp [Value.oneCell']
      go_wp2_with (first | ((with_reducible (refine tpLook ?_)); (refine wpList_load_row rfl 41 _ rfl g rfl 41 _ (0, 0) _ qg Tryd.underlying41 rfl acSz3 ?_)) | ((with_reducible (refine tpLook ?_)); (refine wpList_store_row rfl 41 (.tmp 4) (.tmp 33) rfl (w.heap.size + 1) #[.int .i64 qr, .int .i64 qn, .slice a K1 c] rfl rfl 41 _ rz_r acSz3 rfl onR ?_)))
      have qR := setRow_heap Wz (w.heap.size + 1) _ (#[.int .i64 qr, .int .i64 qn, .slice a K1 c]) 41 _ rz_r
      have dR := tBelow_row dz (show w.heap.size ≤ w.heap.size + 1 by omega) (#[.int .i64 qr, .int .i64 qn, .slice a K1 c])
      have sR := sg.otherRow rz_r (by simp) (#[.int .i64 qr, .int .i64 qn, .slice a K1 c])
      refine bodyPost_ret (tRow2 rfl _ _ (w.heap.size + 1) 41 _ (0, 0) _ rfl qR Tryd.underlying41 rfl acSz3) rfl ?_
      rw [HD.out.1, HD.out.2]
      exact ⟨_, rfl, sR, dR⟩
    · have HD : Hid ((doneB ⟨⟨pr, pn⟩, l⟩ b).isSome = false ∧ donA ⟨⟨pr, pn⟩, l⟩ b = a0) := by
        have h3 : donE ⟨⟨pr, pn⟩, l⟩ b = 3 ∧ donA ⟨⟨pr, pn⟩, l⟩ b = a0 := ⟨(if_neg (fun g => c1b g.2)).trans (if_neg (fun g => by have := HL9.out; have := g.1; omega)), (if_neg (fun g => c1b g.2)).trans (if_neg (fun g => by have := HL9.out; have := g.1; omega))⟩
        exact ⟨by rw [doneB_eq, h3.1, if_neg (by decide)]; rfl, h3.2⟩
      generalize b.getD 0 0 = B0 at hc hx c1b
      have hB1 : (B0 == 1) = false := by simpa using c1b
      clear c1b r1 s1
      obtain ⟨W0, hW0⟩ : ∃ W0, (w.alloc (.cells #[.int .i64 pr, .int .i64 pn, .slice ax M cp] 41)).alloc (.cells #[.int .i64 0, .int .i64 0, .slice none 0 0] 41) = W0 := ⟨_, rfl⟩
      have r0_p : W0.heap[w.heap.size]? = some (.cells #[.int .i64 pr, .int .i64 pn, .slice ax M cp] 41) := by rw [← hW0]; exact t_alloc2_0 _ _ _
      have r0_r : W0.heap[w.heap.size + 1]? = some (.cells #[.int .i64 0, .int .i64 0, .slice none 0 0] 41) := by rw [← hW0]; exact t_alloc2_1 _ _ _
      have bb : Below w.heap.size w W0 := by rw [← hW0]; exact t_allocB2 _ _ _
      have l0_p : w.heap.size < W0.heap.size := (Array.getElem?_eq_some_iff.1 r0_p).1
      have l0_r : (w.heap.size + 1) < W0.heap.size := (Array.getElem?_eq_some_iff.1 r0_r).1
      have sl0_x := h.below bb
      have sl0_b := hb.below bb
      go_enter Tryd.func36, Tryd.ntmps36
      have hcW : W0.cell? ⟨bd, od, none⟩ = some (.int .u8 B0) := (bb.cell (p := ⟨bd, od, none⟩) hbd).trans hc
      have hRB : w.heap.size + 1 < W0.heap.size := l0_r
      have onR : (#[.int .i64 0, .int .i64 0, .slice none 0 0] : Array Value).all (·.oneCell') = true := by simp [Value.oneCell']
      go_wp2_with ((with_reducible (refine tpLook ?_)); (refine wpList_store_row rfl 41 (.tmp 4) (.tmp 71) rfl (w.heap.size + 1) #[.int .i64 0, .int .i64 0, .slice none 0 0] rfl rfl 41 _ r0_r acSz3 rfl onR ?_))
      have qR := setRow_heap W0 (w.heap.size + 1) _ (#[.int .i64 0, .int .i64 0, .slice none 0 0]) 41 _ r0_r
      have dR := tBelow_row bb (show w.heap.size ≤ (w.heap.size + 1) by omega) (#[.int .i64 0, .int .i64 0, .slice none 0 0])
      refine bodyPost_ret (tRow2 rfl _ _ (w.heap.size + 1) 41 _ (0, 0) _ rfl qR Tryd.underlying41 rfl acSz3) rfl ?_
      rw [HD.out.1, HD.out.2]
      exact ⟨.slice none 0 0, rfl, Sv.nil0 _, dR⟩
  · have k9 : ((b.length : Int) == 9) = false := by simp; omega
    have H9 : Hid (¬ b.length = 9) := c9
    by_cases c33 : b.length = 33
    · obtain ⟨bd, od, hv, hbd, hc⟩ := HB0.out 0 (by omega) rfl
      simp only [Value.slice.injEq] at hv
      obtain ⟨rfl, -, -⟩ := hv
      rw [Nat.add_zero] at hc
      clear HB0
      obtain ⟨a1, c1, r1, s1⟩ := hb.cutT 13 33 20 (by omega) (by omega) (by omega) 13 33 rfl rfl
      have HL33 : Hid (b.length = 33) := c33
      rw [c33] at hb r1 k9 ⊢
      have hdr : (b.take 33).drop 13 = b.drop 13 := by rw [List.take_of_length_le (by omega)]
      rw [hdr] at s1
      clear hdr
      clear c33 c9 k9
      by_cases c2b : b.getD 0 0 = 2
      · have hdd : donE ⟨⟨pr, pn⟩, l⟩ b = (if decE (b.drop 13) = 0 then votE ⟨⟨pr, pn⟩, l⟩ (bodyV b) else decE (b.drop 13)) ∧ donA ⟨⟨pr, pn⟩, l⟩ b = (if decE (b.drop 13) = 0 then ⟨accP ⟨⟨pr, pn⟩, l⟩ (bodyV b), accL ⟨⟨pr, pn⟩, l⟩ (bodyV b)⟩ else a0) := ⟨(if_neg (fun g => H9.out g.1)).trans (if_pos ⟨HL33.out, c2b⟩), (if_neg (fun g => H9.out g.1)).trans (if_pos ⟨HL33.out, c2b⟩)⟩
        rw [c2b] at hc
        clear c2b hx
        have HDD : Hid _ := hdd
        clear hdd
        obtain ⟨W0, hW0⟩ : ∃ W0, (w.alloc (.cells #[.int .i64 pr, .int .i64 pn, .slice ax M cp] 41)).alloc (.cells #[.int .i64 0, .int .i64 0, .slice none 0 0] 41) = W0 := ⟨_, rfl⟩
        have r0_p : W0.heap[w.heap.size]? = some (.cells #[.int .i64 pr, .int .i64 pn, .slice ax M cp] 41) := by rw [← hW0]; exact t_alloc2_0 _ _ _
        have r0_r : W0.heap[w.heap.size + 1]? = some (.cells #[.int .i64 0, .int .i64 0, .slice none 0 0] 41) := by rw [← hW0]; exact t_alloc2_1 _ _ _
        have bb : Below w.heap.size w W0 := by rw [← hW0]; exact t_allocB2 _ _ _
        have l0_p : w.heap.size < W0.heap.size := (Array.getElem?_eq_some_iff.1 r0_p).1
        have l0_r : (w.heap.size + 1) < W0.heap.size := (Array.getElem?_eq_some_iff.1 r0_r).1
        have sl0_x := h.below bb
        have sl0_b := hb.below bb
        go_enter Tryd.func36, Tryd.ntmps36
        have sl0_s1 := s1.below bb
        have hcW : W0.cell? ⟨bd, od, none⟩ = some (.int .u8 2) := (bb.cell (p := ⟨bd, od, none⟩) hbd).trans hc
        clear hc
        go_wp2_with fail
        clear hW0 hcW r1
        refine (comOf_any (.slice a1 20 c1) (b.drop 13) W0 sl0_s1).mono ?_
        rintro e w1 ⟨rfl, bw1⟩
        have d1 := bb.trans (bw1.mono bb.size)
        have rw1_p := (bw1.block _ l0_p).trans r0_p
        have lw1_p := Nat.lt_of_lt_of_le l0_p bw1.size
        have rw1_r := (bw1.block _ l0_r).trans r0_r
        have lw1_r := Nat.lt_of_lt_of_le l0_r bw1.size
        have sl1_x := sl0_x.below bw1
        have sl1_b := sl0_b.below bw1
        have sl1_s1 := sl0_s1.below bw1
        clear l0_p r0_p l0_r r0_r sl0_x sl0_b sl0_s1
        clear bw1
        have hRB : w.heap.size + 1 < w1.heap.size := lw1_r
        by_cases h1 : decE (b.drop 13) = 0
        · have HDD2 := HDD.out
          rw [if_pos h1, if_pos h1] at HDD2
          have hD := decV_pos h1
          rw [hD, h1]
          clear hD
          obtain ⟨⟨qr, qn⟩, hP1⟩ : ∃ P1, accP ⟨⟨pr, pn⟩, l⟩ (bodyV b) = P1 := ⟨_, rfl⟩
          obtain ⟨L1, hL1⟩ : ∃ L1, accL ⟨⟨pr, pn⟩, l⟩ (bodyV b) = L1 := ⟨_, rfl⟩
          obtain ⟨E1, hE1⟩ : ∃ E1, votE ⟨⟨pr, pn⟩, l⟩ (bodyV b) = E1 := ⟨_, rfl⟩
          obtain ⟨K1, hK1⟩ : ∃ K1, L1.length = K1 := ⟨_, rfl⟩
          have HP1 : Hid (accP ⟨⟨pr, pn⟩, l⟩ (bodyV b) = ⟨qr, qn⟩ ∧ accL ⟨⟨pr, pn⟩, l⟩ (bodyV b) = L1 ∧ votE ⟨⟨pr, pn⟩, l⟩ (bodyV b) = E1 ∧ L1.length = K1) := ⟨hP1, hL1, hE1, hK1⟩
          have HD : Hid ((doneB ⟨⟨pr, pn⟩, l⟩ b).isSome = (E1 == 0) ∧ donA ⟨⟨pr, pn⟩, l⟩ b = ⟨⟨qr, qn⟩, L1⟩) := by
            rw [hP1, hL1, hE1] at HDD2
            refine ⟨?_, HDD2.2⟩
            rw [doneB_eq, HDD2.1]
            by_cases h0 : E1 = 0
            · rw [if_pos h0, beq_decide0, decide_eq_true h0]; rfl
            · rw [if_neg h0, beq_decide0, decide_eq_false h0]; rfl
          clear HDD HDD2 hP1 hL1 hE1 hK1 h1
          obtain ⟨vs, ⟨vr, vn⟩, ⟨vk, vc, vq, vm, vx⟩, hbv⟩ : ∃ s t c, bodyV b = ⟨s, t, c⟩ := ⟨_, _, _, rfl⟩
          have HBV : Hid (numA b 1 = vs ∧ numA b 5 = vr ∧ numA b 9 = vn) := by have := hbv; unfold bodyV at this; simp only [Vt.mk.injEq, Bal.mk.injEq] at this; exact ⟨this.1, this.2.1.1, this.2.1.2⟩
          have hdc : decC (b.drop 13) = ⟨vk, vc, vq, vm, vx⟩ := by have := hbv; unfold bodyV at this; simp only [Vt.mk.injEq] at this; exact this.2.2
          rw [hdc]
          rw [hbv] at HP1
          simp only
          clear hdc hbv
          have bN2 : Below w1.heap.size w1 (w1.alloc (.cells #[.int .i64 0, .int .i64 0, .int .i64 0, .int .i64 0, .int .i64 0] 34)) := (Below.refl _ _).alloc (Nat.le_refl _) _
          have rN2 := heap_alloc_new w1 (.cells #[.int .i64 0, .int .i64 0, .int .i64 0, .int .i64 0, .int .i64 0] 34)
          have on2 : (#[.int .i64 vk, .int .i64 vc, .int .i64 vq, .int .i64 vm, .int .i64 vx] : Array Value).all (·.oneCell') = true := by simp [Value.oneCell']
          generalize hN2 : w1.alloc (.cells #[.int .i64 0, .int .i64 0, .int .i64 0, .int .i64 0, .int .i64 0] 34) = N2 at bN2 rN2
          go_upto_region 6 with ((with_reducible (refine tpLook ?_)); (refine wpList_store_row rfl 34 (.tmp 9) (.tmp 49) rfl w1.heap.size #[.int .i64 vk, .int .i64 vc, .int .i64 vq, .int .i64 vm, .int .i64 vx] rfl rfl 34 _ rN2 cmSz5 rfl on2 ?_))
          clear hN2
          have qN2 := setRow_heap N2 w1.heap.size _ (#[.int .i64 vk, .int .i64 vc, .int .i64 vq, .int .i64 vm, .int .i64 vx]) 34 _ rN2
          replace bN2 := tBelow_row bN2 (Nat.le_refl _) (#[.int .i64 vk, .int .i64 vc, .int .i64 vq, .int .i64 vm, .int .i64 vx])
          generalize N2.setRow w1.heap.size (#[.int .i64 vk, .int .i64 vc, .int .i64 vq, .int .i64 vm, .int .i64 vx]) = W2 at qN2 bN2 ⊢
          have lN2 : w1.heap.size < W2.heap.size := (Array.getElem?_eq_some_iff.1 qN2).1
          clear rN2 on2
          have d2 := d1.trans (bN2.mono d1.size)
          have rw2_p := (bN2.block _ lw1_p).trans rw1_p
          have lw2_p := Nat.lt_of_lt_of_le lw1_p bN2.size
          have rw2_r := (bN2.block _ lw1_r).trans rw1_r
          have lw2_r := Nat.lt_of_lt_of_le lw1_r bN2.size
          have sl2_x := sl1_x.below bN2
          have sl2_b := sl1_b.below bN2
          have sl2_s1 := sl1_s1.below bN2
          clear lw1_p rw1_p lw1_r rw1_r sl1_x sl1_b sl1_s1
          obtain ⟨gC, hgC⟩ : ∃ g, g = w1.heap.size := ⟨_, rfl⟩
          rw [← hgC] at qN2 lN2 ⊢
          clear hgC bN2
          have hr_gC : W2.rangeAt gC 0 [.int .i64 vk, .int .i64 vc, .int .i64 vq, .int .i64 vm, .int .i64 vx] := tOne_range (cs := [.int .i64 vk, .int .i64 vc, .int .i64 vq, .int .i64 vm, .int .i64 vx]) qN2
          have hr_p : W2.rangeAt w.heap.size 0 [.int .i64 pr, .int .i64 pn, .slice ax M cp] := tOne_range (cs := [.int .i64 pr, .int .i64 pn, .slice ax M cp]) rw2_p
          go_wp2_with fail
          apply t_mergeH (fun g a c Wz => Wz.heap[g]? = some (.cells #[.int .i64 qr, .int .i64 qn, .slice a K1 c] 41) ∧ Sv Wz (.slice a K1 c) L1 ∧ Below W2.heap.size W2 Wz)
          · intro K2 HK2
            have ed : Below W2.heap.size W2 W2.drew := (Below.refl _ _).drew
            refine wp_region_held (S := fun w' => Below W2.heap.size W2 w') (by kernel_rfl) ?_
            refine heldTake (i := 0) 55 (v := .agg #[.int .i64 pr, .int .i64 pn, .slice ax M cp]) rfl rfl (by kernel_rfl) (by kernel_rfl) (by kernel_rfl) (fun _ _ _ h => h) (yieldsIf_load_mid (by rfl) 41 (.tmp 2) rfl w.heap.size 0 rfl [.int .i64 pr, .int .i64 pn, .slice ax M cp] _ (fun w' hw' => tRange hw' lw2_p hr_p) Tryd.underlying41 rfl acSz3) ed ?_
            simp only [Act.put, List.setIfInBounds_toArray, List.set_cons_zero, List.set_cons_succ]
            refine heldTake (i := 1) 56 (v := .slice (some ⟨bd, od, none⟩) 33 cb) rfl rfl (by kernel_rfl) (by kernel_rfl) (by kernel_rfl) (fun _ _ _ h => h) (Or.inl ⟨by rfl, fun _ _ => by kernel_rfl⟩) ed ?_
            simp only [Act.put, List.setIfInBounds_toArray, List.set_cons_zero, List.set_cons_succ]
            refine heldTake (i := 3) 58 (v := .slice (some ⟨bd, od, none⟩) 33 cb) rfl rfl (by kernel_rfl) (by kernel_rfl) (by kernel_rfl) (fun _ _ _ h => h) (Or.inl ⟨by rfl, fun _ _ => by kernel_rfl⟩) ed ?_
            simp only [Act.put, List.setIfInBounds_toArray, List.set_cons_zero, List.set_cons_succ]
            refine heldTake (i := 5) 60 (v := .slice (some ⟨bd, od, none⟩) 33 cb) rfl rfl (by kernel_rfl) (by kernel_rfl) (by kernel_rfl) (fun _ _ _ h => h) (Or.inl ⟨by rfl, fun _ _ => by kernel_rfl⟩) ed ?_
            simp only [Act.put, List.setIfInBounds_toArray, List.set_cons_zero, List.set_cons_succ]
            refine heldTake (i := 8) 63 (v := .agg #[.int .i64 vk, .int .i64 vc, .int .i64 vq, .int .i64 vm, .int .i64 vx]) rfl rfl (by kernel_rfl) (by kernel_rfl) (by kernel_rfl) (fun _ _ _ h => h) (yieldsIf_load_mid (by rfl) 34 (.tmp 9) rfl gC 0 rfl [.int .i64 vk, .int .i64 vc, .int .i64 vq, .int .i64 vm, .int .i64 vx] _ (fun w' hw' => tRange hw' lN2 hr_gC) Tryd.underlying34 rfl cmSz5) ed ?_
            simp only [Act.put, List.setIfInBounds_toArray, List.set_cons_zero, List.set_cons_succ]
            refine heldTwo (i := 2) (i' := 14) (by kernel_rfl) ?_ ?_
            · refine (opCall (i := 2) (d := 57) (f := 59) (args := #[.slice (some ⟨bd, od, none⟩) 33 cb, .int .i64 1]) rfl (by kernel_rfl) rfl (by kernel_rfl) ((fourHigh_any (.slice (some ⟨bd, od, none⟩) 33 cb) b 1 W2.drew (sl2_b.below ed) (by rw [HL33.out]; decide)).mono ?_))
              rintro e' wc1 ⟨rfl, n1, hn1⟩
              have bc1 : Below W2.drew.heap.size W2.drew wc1 := by rw [hn1]; exact below_drewN (Below.refl _ _) n1
              rw [HBV.out.1]
              have ec1 : Below W2.heap.size W2 wc1 := ed.trans (bc1.mono ed.size)
              refine ⟨_, rfl, ec1, ?_⟩
              simp only [Act.put, List.setIfInBounds_toArray, List.set_cons_zero, List.set_cons_succ]
              refine heldTwo (i := 4) (i' := 14) (by kernel_rfl) ?_ ?_
              · refine (opCall (i := 4) (d := 59) (f := 59) (args := #[.slice (some ⟨bd, od, none⟩) 33 cb, .int .i64 5]) rfl (by kernel_rfl) rfl (by kernel_rfl) ((fourHigh_any (.slice (some ⟨bd, od, none⟩) 33 cb) b 5 wc1 (sl2_b.below ec1) (by rw [HL33.out]; decide)).mono ?_))
                rintro e' wc2 ⟨rfl, n2, hn2⟩
                have bc2 : Below wc1.heap.size wc1 wc2 := by rw [hn2]; exact below_drewN (Below.refl _ _) n2
                rw [HBV.out.2.1]
                have ec2 : Below W2.heap.size W2 wc2 := ec1.trans (bc2.mono ec1.size)
                refine ⟨_, rfl, ec2, ?_⟩
                simp only [Act.put, List.setIfInBounds_toArray, List.set_cons_zero, List.set_cons_succ]
                refine heldTwo (i := 6) (i' := 14) (by kernel_rfl) ?_ ?_
                · refine (opCall (i := 6) (d := 61) (f := 59) (args := #[.slice (some ⟨bd, od, none⟩) 33 cb, .int .i64 9]) rfl (by kernel_rfl) rfl (by kernel_rfl) ((fourHigh_any (.slice (some ⟨bd, od, none⟩) 33 cb) b 9 wc2 (sl2_b.below ec2) (by rw [HL33.out]; decide)).mono ?_))
                  rintro e' wc3 ⟨rfl, n3, hn3⟩
                  have bc3 : Below wc2.heap.size wc2 wc3 := by rw [hn3]; exact below_drewN (Below.refl _ _) n3
                  rw [HBV.out.2.2]
                  have ec3 : Below W2.heap.size W2 wc3 := ec2.trans (bc3.mono ec2.size)
                  refine ⟨_, rfl, ec3, ?_⟩
                  simp only [Act.put, List.setIfInBounds_toArray, List.set_cons_zero, List.set_cons_succ]
                  refine heldTake (i := 7) 62 (v := .agg #[.int .i64 vr, .int .i64 vn]) rfl rfl (by kernel_rfl) (by kernel_rfl) (by kernel_rfl) (fun _ _ _ h => h) (Or.inl ⟨by rfl, fun _ _ => by kernel_rfl⟩) ec3 ?_
                  simp only [Act.put, List.setIfInBounds_toArray, List.set_cons_zero, List.set_cons_succ]
                  refine heldTake (i := 9) 64 (v := .agg #[.int .i64 vs, .int .i64 vr, .int .i64 vn, .int .i64 vk, .int .i64 vc, .int .i64 vq, .int .i64 vm, .int .i64 vx]) rfl rfl (by kernel_rfl) (by kernel_rfl) (by kernel_rfl) (fun _ _ _ h => h) (Or.inl ⟨by rfl, fun _ _ => by kernel_rfl⟩) ec3 ?_
                  simp only [Act.put, List.setIfInBounds_toArray, List.set_cons_zero, List.set_cons_succ]
                  refine heldTwo (i := 10) (i' := 14) (by kernel_rfl) ?_ ?_
                  · refine (opCall (i := 10) (d := 65) (f := 61) (args := #[.agg #[.int .i64 pr, .int .i64 pn, .slice ax M cp], .agg #[.int .i64 vs, .int .i64 vr, .int .i64 vn, .int .i64 vk, .int .i64 vc, .int .i64 vq, .int .i64 vm, .int .i64 vx]]) rfl (by kernel_rfl) rfl (by kernel_rfl) ((acceptedBy_any ⟨pr, pn⟩ (.slice ax M cp) l ⟨vs, ⟨vr, vn⟩, ⟨vk, vc, vq, vm, vx⟩⟩ wc3 (sl2_x.below ec3)).mono ?_))
                    rintro e' wc4 ⟨y4, rfl, sy4, bc4⟩
                    rw [HP1.out.1, HP1.out.2.2.1]
                    rw [HP1.out.2.1] at sy4
                    obtain ⟨ay4, cy4, hy4⟩ := sy4.shape
                    rw [HP1.out.2.2.2] at hy4
                    subst hy4
                    simp only [acA]
                    have ec4 : Below W2.heap.size W2 wc4 := ec3.trans (bc4.mono ec3.size)
                    refine ⟨_, rfl, ec4, ?_⟩
                    simp only [Act.put, List.setIfInBounds_toArray, List.set_cons_zero, List.set_cons_succ]
                    refine heldTake (i := 11) 54 (v := .tuple #[.agg #[.int .i64 qr, .int .i64 qn, .slice ay4 K1 cy4], .int .i64 E1]) rfl rfl (by kernel_rfl) (by kernel_rfl) (by kernel_rfl) (fun _ _ _ h => h) (Or.inl ⟨by rfl, fun _ _ => by kernel_rfl⟩) ec4 ?_
                    simp only [Act.put, List.setIfInBounds_toArray, List.set_cons_zero, List.set_cons_succ]
                    refine heldTake (i := 12) 66 (v := .agg #[.int .i64 qr, .int .i64 qn, .slice ay4 K1 cy4]) rfl rfl (by kernel_rfl) (by kernel_rfl) (by kernel_rfl) (fun _ _ _ h => h) (Or.inl ⟨by rfl, fun _ _ => by kernel_rfl⟩) ec4 ?_
                    simp only [Act.put, List.setIfInBounds_toArray, List.set_cons_zero, List.set_cons_succ]
                    refine heldTake (i := 13) 67 (v := .int .i64 E1) rfl rfl (by kernel_rfl) (by kernel_rfl) (by kernel_rfl) (fun _ _ _ h => h) (Or.inl ⟨by rfl, fun _ _ => by kernel_rfl⟩) ec4 ?_
                    simp only [Act.put, List.setIfInBounds_toArray, List.set_cons_zero, List.set_cons_succ]
                    obtain ⟨gv5, hgv5⟩ : ∃ g, g = wc4.heap.size := ⟨_, rfl⟩
                    have aG5 : Below wc4.heap.size wc4 (wc4.alloc (.cells #[.int .i64 0, .int .i64 0, .slice none 0 0] 41)) := (Below.refl _ _).alloc (Nat.le_refl _) _
                    have eG5 : Below W2.heap.size W2 (wc4.alloc (.cells #[.int .i64 0, .int .i64 0, .slice none 0 0] 41)) := ec4.trans (aG5.mono ec4.size)
                    have rG5 : (wc4.alloc (.cells #[.int .i64 0, .int .i64 0, .slice none 0 0] 41)).heap[gv5]? = some (.cells #[.int .i64 0, .int .i64 0, .slice none 0 0] 41) := by rw [hgv5]; exact heap_alloc_new _ _
                    have hgle5 : W2.heap.size ≤ gv5 := by rw [hgv5]; exact ec4.size
                    have sy_5 := sy4.below aG5
                    refine heldOne (i := 14) (by kernel_rfl) (opRun (i := 14) (d := 11) (v := .pointer (some ⟨gv5, 0, none⟩)) (w' := wc4.alloc (.cells #[.int .i64 0, .int .i64 0, .slice none 0 0] 41)) rfl (by kernel_rfl) rfl (by rw [hgv5]; kernel_rfl) ⟨eG5, ?_⟩)
                    simp only [Act.put, List.setIfInBounds_toArray, List.set_cons_zero, List.set_cons_succ]
                    have hone6 : (#[.int .i64 qr, .int .i64 qn, .slice ay4 K1 cy4] : Array Value).all (·.oneCell') = true := by simp [Value.oneCell']
                    refine heldOne (i := 15) (by kernel_rfl) (opStore (i := 15) rfl (by kernel_rfl) rfl 41 (.tmp 11) (.tmp 66) rfl gv5 #[.int .i64 qr, .int .i64 qn, .slice ay4 K1 cy4] (by kernel_rfl) (by kernel_rfl) 41 _ rG5 acSz3 rfl hone6 ⟨tBelow_row eG5 hgle5 _, ?_⟩)
                    have eS6 := tBelow_row eG5 hgle5 (#[.int .i64 qr, .int .i64 qn, .slice ay4 K1 cy4])
                    have rS6 := setRow_heap _ gv5 _ (#[.int .i64 qr, .int .i64 qn, .slice ay4 K1 cy4]) 41 _ rG5
                    have sy_6 := sy_5.otherRow rG5 (by simp) (#[.int .i64 qr, .int .i64 qn, .slice ay4 K1 cy4])
                    refine heldTake (i := 16) 12 (v := .int .i64 E1) rfl rfl (by kernel_rfl) (by kernel_rfl) (by kernel_rfl) (fun _ _ _ h => h) (Or.inl ⟨by rfl, fun _ _ => by kernel_rfl⟩) eS6 ?_
                    simp only [Act.put, List.setIfInBounds_toArray, List.set_cons_zero, List.set_cons_succ]
                    exact wpAnyH_done (by kernel_rfl) (HK2.out gv5 ay4 cy4 _ ⟨rS6, sy_6, eS6⟩) _
                  · obtain ⟨gv7, hgv7⟩ : ∃ g, g = wc3.heap.size := ⟨_, rfl⟩
                    have aG7 : Below wc3.heap.size wc3 (wc3.alloc (.cells #[.int .i64 0, .int .i64 0, .slice none 0 0] 41)) := (Below.refl _ _).alloc (Nat.le_refl _) _
                    have eG7 : Below W2.heap.size W2 (wc3.alloc (.cells #[.int .i64 0, .int .i64 0, .slice none 0 0] 41)) := ec3.trans (aG7.mono ec3.size)
                    have rG7 : (wc3.alloc (.cells #[.int .i64 0, .int .i64 0, .slice none 0 0] 41)).heap[gv7]? = some (.cells #[.int .i64 0, .int .i64 0, .slice none 0 0] 41) := by rw [hgv7]; exact heap_alloc_new _ _
                    have hgle7 : W2.heap.size ≤ gv7 := by rw [hgv7]; exact ec3.size
                    refine (opRun (i := 14) (d := 11) (v := .pointer (some ⟨gv7, 0, none⟩)) (w' := wc3.alloc (.cells #[.int .i64 0, .int .i64 0, .slice none 0 0] 41)) rfl (by kernel_rfl) rfl (by rw [hgv7]; kernel_rfl) ⟨eG7, ?_⟩)
                    simp only [Act.put, List.setIfInBounds_toArray, List.set_cons_zero, List.set_cons_succ]
                    refine heldOne (i := 10) (by kernel_rfl) (opCall (i := 10) (d := 65) (f := 61) (args := #[.agg #[.int .i64 pr, .int .i64 pn, .slice ax M cp], .agg #[.int .i64 vs, .int .i64 vr, .int .i64 vn, .int .i64 vk, .int .i64 vc, .int .i64 vq, .int .i64 vm, .int .i64 vx]]) rfl (by kernel_rfl) rfl (by kernel_rfl) ((acceptedBy_any ⟨pr, pn⟩ (.slice ax M cp) l ⟨vs, ⟨vr, vn⟩, ⟨vk, vc, vq, vm, vx⟩⟩ (wc3.alloc (.cells #[.int .i64 0, .int .i64 0, .slice none 0 0] 41)) (sl2_x.below eG7)).mono ?_))
                    rintro e' wc8 ⟨y8, rfl, sy8, bc8⟩
                    rw [HP1.out.1, HP1.out.2.2.1]
                    rw [HP1.out.2.1] at sy8
                    obtain ⟨ay8, cy8, hy8⟩ := sy8.shape
                    rw [HP1.out.2.2.2] at hy8
                    subst hy8
                    simp only [acA]
                    have ec8 : Below W2.heap.size W2 wc8 := eG7.trans (bc8.mono eG7.size)
                    have rg8 := (bc8.block _ (Array.getElem?_eq_some_iff.1 rG7).1).trans rG7
                    refine ⟨_, rfl, ec8, ?_⟩
                    simp only [Act.put, List.setIfInBounds_toArray, List.set_cons_zero, List.set_cons_succ]
                    refine heldTake (i := 11) 54 (v := .tuple #[.agg #[.int .i64 qr, .int .i64 qn, .slice ay8 K1 cy8], .int .i64 E1]) rfl rfl (by kernel_rfl) (by kernel_rfl) (by kernel_rfl) (fun _ _ _ h => h) (Or.inl ⟨by rfl, fun _ _ => by kernel_rfl⟩) ec8 ?_
                    simp only [Act.put, List.setIfInBounds_toArray, List.set_cons_zero, List.set_cons_succ]
                    refine heldTake (i := 12) 66 (v := .agg #[.int .i64 qr, .int .i64 qn, .slice ay8 K1 cy8]) rfl rfl (by kernel_rfl) (by kernel_rfl) (by kernel_rfl) (fun _ _ _ h => h) (Or.inl ⟨by rfl, fun _ _ => by kernel_rfl⟩) ec8 ?_
                    simp only [Act.put, List.setIfInBounds_toArray, List.set_cons_zero, List.set_cons_succ]
                    refine heldTake (i := 13) 67 (v := .int .i64 E1) rfl rfl (by kernel_rfl) (by kernel_rfl) (by kernel_rfl) (fun _ _ _ h => h) (Or.inl ⟨by rfl, fun _ _ => by kernel_rfl⟩) ec8 ?_
                    simp only [Act.put, List.setIfInBounds_toArray, List.set_cons_zero, List.set_cons_succ]
                    have hone9 : (#[.int .i64 qr, .int .i64 qn, .slice ay8 K1 cy8] : Array Value).all (·.oneCell') = true := by simp [Value.oneCell']
                    refine heldOne (i := 15) (by kernel_rfl) (opStore (i := 15) rfl (by kernel_rfl) rfl 41 (.tmp 11) (.tmp 66) rfl gv7 #[.int .i64 qr, .int .i64 qn, .slice ay8 K1 cy8] (by kernel_rfl) (by kernel_rfl) 41 _ rg8 acSz3 rfl hone9 ⟨tBelow_row ec8 hgle7 _, ?_⟩)
                    have eS9 := tBelow_row ec8 hgle7 (#[.int .i64 qr, .int .i64 qn, .slice ay8 K1 cy8])
                    have rS9 := setRow_heap _ gv7 _ (#[.int .i64 qr, .int .i64 qn, .slice ay8 K1 cy8]) 41 _ rg8
                    have sy_9 := sy8.otherRow rg8 (by simp) (#[.int .i64 qr, .int .i64 qn, .slice ay8 K1 cy8])
                    refine heldTake (i := 16) 12 (v := .int .i64 E1) rfl rfl (by kernel_rfl) (by kernel_rfl) (by kernel_rfl) (fun _ _ _ h => h) (Or.inl ⟨by rfl, fun _ _ => by kernel_rfl⟩) eS9 ?_
                    simp only [Act.put, List.setIfInBounds_toArray, List.set_cons_zero, List.set_cons_succ]
                    exact wpAnyH_done (by kernel_rfl) (HK2.out gv7 ay8 cy8 _ ⟨rS9, sy_9, eS9⟩) _
                · obtain ⟨gv10, hgv10⟩ : ∃ g, g = wc2.heap.size := ⟨_, rfl⟩
                  have aG10 : Below wc2.heap.size wc2 (wc2.alloc (.cells #[.int .i64 0, .int .i64 0, .slice none 0 0] 41)) := (Below.refl _ _).alloc (Nat.le_refl _) _
                  have eG10 : Below W2.heap.size W2 (wc2.alloc (.cells #[.int .i64 0, .int .i64 0, .slice none 0 0] 41)) := ec2.trans (aG10.mono ec2.size)
                  have rG10 : (wc2.alloc (.cells #[.int .i64 0, .int .i64 0, .slice none 0 0] 41)).heap[gv10]? = some (.cells #[.int .i64 0, .int .i64 0, .slice none 0 0] 41) := by rw [hgv10]; exact heap_alloc_new _ _
                  have hgle10 : W2.heap.size ≤ gv10 := by rw [hgv10]; exact ec2.size
                  refine (opRun (i := 14) (d := 11) (v := .pointer (some ⟨gv10, 0, none⟩)) (w' := wc2.alloc (.cells #[.int .i64 0, .int .i64 0, .slice none 0 0] 41)) rfl (by kernel_rfl) rfl (by rw [hgv10]; kernel_rfl) ⟨eG10, ?_⟩)
                  simp only [Act.put, List.setIfInBounds_toArray, List.set_cons_zero, List.set_cons_succ]
                  refine heldOne (i := 6) (by kernel_rfl) (opCall (i := 6) (d := 61) (f := 59) (args := #[.slice (some ⟨bd, od, none⟩) 33 cb, .int .i64 9]) rfl (by kernel_rfl) rfl (by kernel_rfl) ((fourHigh_any (.slice (some ⟨bd, od, none⟩) 33 cb) b 9 (wc2.alloc (.cells #[.int .i64 0, .int .i64 0, .slice none 0 0] 41)) (sl2_b.below eG10) (by rw [HL33.out]; decide)).mono ?_))
                  rintro e' wc11 ⟨rfl, n11, hn11⟩
                  have bc11 : Below (wc2.alloc (.cells #[.int .i64 0, .int .i64 0, .slice none 0 0] 41)).heap.size (wc2.alloc (.cells #[.int .i64 0, .int .i64 0, .slice none 0 0] 41)) wc11 := by rw [hn11]; exact below_drewN (Below.refl _ _) n11
                  rw [HBV.out.2.2]
                  have ec11 : Below W2.heap.size W2 wc11 := eG10.trans (bc11.mono eG10.size)
                  have rg11 := (bc11.block _ (Array.getElem?_eq_some_iff.1 rG10).1).trans rG10
                  refine ⟨_, rfl, ec11, ?_⟩
                  simp only [Act.put, List.setIfInBounds_toArray, List.set_cons_zero, List.set_cons_succ]
                  refine heldTake (i := 7) 62 (v := .agg #[.int .i64 vr, .int .i64 vn]) rfl rfl (by kernel_rfl) (by kernel_rfl) (by kernel_rfl) (fun _ _ _ h => h) (Or.inl ⟨by rfl, fun _ _ => by kernel_rfl⟩) ec11 ?_
                  simp only [Act.put, List.setIfInBounds_toArray, List.set_cons_zero, List.set_cons_succ]
                  refine heldTake (i := 9) 64 (v := .agg #[.int .i64 vs, .int .i64 vr, .int .i64 vn, .int .i64 vk, .int .i64 vc, .int .i64 vq, .int .i64 vm, .int .i64 vx]) rfl rfl (by kernel_rfl) (by kernel_rfl) (by kernel_rfl) (fun _ _ _ h => h) (Or.inl ⟨by rfl, fun _ _ => by kernel_rfl⟩) ec11 ?_
                  simp only [Act.put, List.setIfInBounds_toArray, List.set_cons_zero, List.set_cons_succ]
                  refine heldOne (i := 10) (by kernel_rfl) (opCall (i := 10) (d := 65) (f := 61) (args := #[.agg #[.int .i64 pr, .int .i64 pn, .slice ax M cp], .agg #[.int .i64 vs, .int .i64 vr, .int .i64 vn, .int .i64 vk, .int .i64 vc, .int .i64 vq, .int .i64 vm, .int .i64 vx]]) rfl (by kernel_rfl) rfl (by kernel_rfl) ((acceptedBy_any ⟨pr, pn⟩ (.slice ax M cp) l ⟨vs, ⟨vr, vn⟩, ⟨vk, vc, vq, vm, vx⟩⟩ wc11 (sl2_x.below ec11)).mono ?_))
                  rintro e' wc12 ⟨y12, rfl, sy12, bc12⟩
                  rw [HP1.out.1, HP1.out.2.2.1]
                  rw [HP1.out.2.1] at sy12
                  obtain ⟨ay12, cy12, hy12⟩ := sy12.shape
                  rw [HP1.out.2.2.2] at hy12
                  subst hy12
                  simp only [acA]
                  have ec12 : Below W2.heap.size W2 wc12 := ec11.trans (bc12.mono ec11.size)
                  have rg12 := (bc12.block _ (Array.getElem?_eq_some_iff.1 rg11).1).trans rg11
                  refine ⟨_, rfl, ec12, ?_⟩
                  simp only [Act.put, List.setIfInBounds_toArray, List.set_cons_zero, List.set_cons_succ]
                  refine heldTake (i := 11) 54 (v := .tuple #[.agg #[.int .i64 qr, .int .i64 qn, .slice ay12 K1 cy12], .int .i64 E1]) rfl rfl (by kernel_rfl) (by kernel_rfl) (by kernel_rfl) (fun _ _ _ h => h) (Or.inl ⟨by rfl, fun _ _ => by kernel_rfl⟩) ec12 ?_
                  simp only [Act.put, List.setIfInBounds_toArray, List.set_cons_zero, List.set_cons_succ]
                  refine heldTake (i := 12) 66 (v := .agg #[.int .i64 qr, .int .i64 qn, .slice ay12 K1 cy12]) rfl rfl (by kernel_rfl) (by kernel_rfl) (by kernel_rfl) (fun _ _ _ h => h) (Or.inl ⟨by rfl, fun _ _ => by kernel_rfl⟩) ec12 ?_
                  simp only [Act.put, List.setIfInBounds_toArray, List.set_cons_zero, List.set_cons_succ]
                  refine heldTake (i := 13) 67 (v := .int .i64 E1) rfl rfl (by kernel_rfl) (by kernel_rfl) (by kernel_rfl) (fun _ _ _ h => h) (Or.inl ⟨by rfl, fun _ _ => by kernel_rfl⟩) ec12 ?_
                  simp only [Act.put, List.setIfInBounds_toArray, List.set_cons_zero, List.set_cons_succ]
                  have hone13 : (#[.int .i64 qr, .int .i64 qn, .slice ay12 K1 cy12] : Array Value).all (·.oneCell') = true := by simp [Value.oneCell']
                  refine heldOne (i := 15) (by kernel_rfl) (opStore (i := 15) rfl (by kernel_rfl) rfl 41 (.tmp 11) (.tmp 66) rfl gv10 #[.int .i64 qr, .int .i64 qn, .slice ay12 K1 cy12] (by kernel_rfl) (by kernel_rfl) 41 _ rg12 acSz3 rfl hone13 ⟨tBelow_row ec12 hgle10 _, ?_⟩)
                  have eS13 := tBelow_row ec12 hgle10 (#[.int .i64 qr, .int .i64 qn, .slice ay12 K1 cy12])
                  have rS13 := setRow_heap _ gv10 _ (#[.int .i64 qr, .int .i64 qn, .slice ay12 K1 cy12]) 41 _ rg12
                  have sy_13 := sy12.otherRow rg12 (by simp) (#[.int .i64 qr, .int .i64 qn, .slice ay12 K1 cy12])
                  refine heldTake (i := 16) 12 (v := .int .i64 E1) rfl rfl (by kernel_rfl) (by kernel_rfl) (by kernel_rfl) (fun _ _ _ h => h) (Or.inl ⟨by rfl, fun _ _ => by kernel_rfl⟩) eS13 ?_
                  simp only [Act.put, List.setIfInBounds_toArray, List.set_cons_zero, List.set_cons_succ]
                  exact wpAnyH_done (by kernel_rfl) (HK2.out gv10 ay12 cy12 _ ⟨rS13, sy_13, eS13⟩) _
              · obtain ⟨gv14, hgv14⟩ : ∃ g, g = wc1.heap.size := ⟨_, rfl⟩
                have aG14 : Below wc1.heap.size wc1 (wc1.alloc (.cells #[.int .i64 0, .int .i64 0, .slice none 0 0] 41)) := (Below.refl _ _).alloc (Nat.le_refl _) _
                have eG14 : Below W2.heap.size W2 (wc1.alloc (.cells #[.int .i64 0, .int .i64 0, .slice none 0 0] 41)) := ec1.trans (aG14.mono ec1.size)
                have rG14 : (wc1.alloc (.cells #[.int .i64 0, .int .i64 0, .slice none 0 0] 41)).heap[gv14]? = some (.cells #[.int .i64 0, .int .i64 0, .slice none 0 0] 41) := by rw [hgv14]; exact heap_alloc_new _ _
                have hgle14 : W2.heap.size ≤ gv14 := by rw [hgv14]; exact ec1.size
                refine (opRun (i := 14) (d := 11) (v := .pointer (some ⟨gv14, 0, none⟩)) (w' := wc1.alloc (.cells #[.int .i64 0, .int .i64 0, .slice none 0 0] 41)) rfl (by kernel_rfl) rfl (by rw [hgv14]; kernel_rfl) ⟨eG14, ?_⟩)
                simp only [Act.put, List.setIfInBounds_toArray, List.set_cons_zero, List.set_cons_succ]
                refine heldOne (i := 4) (by kernel_rfl) (opCall (i := 4) (d := 59) (f := 59) (args := #[.slice (some ⟨bd, od, none⟩) 33 cb, .int .i64 5]) rfl (by kernel_rfl) rfl (by kernel_rfl) ((fourHigh_any (.slice (some ⟨bd, od, none⟩) 33 cb) b 5 (wc1.alloc (.cells #[.int .i64 0, .int .i64 0, .slice none 0 0] 41)) (sl2_b.below eG14) (by rw [HL33.out]; decide)).mono ?_))
                rintro e' wc15 ⟨rfl, n15, hn15⟩
                have bc15 : Below (wc1.alloc (.cells #[.int .i64 0, .int .i64 0, .slice none 0 0] 41)).heap.size (wc1.alloc (.cells #[.int .i64 0, .int .i64 0, .slice none 0 0] 41)) wc15 := by rw [hn15]; exact below_drewN (Below.refl _ _) n15
                rw [HBV.out.2.1]
                have ec15 : Below W2.heap.size W2 wc15 := eG14.trans (bc15.mono eG14.size)
                have rg15 := (bc15.block _ (Array.getElem?_eq_some_iff.1 rG14).1).trans rG14
                refine ⟨_, rfl, ec15, ?_⟩
                simp only [Act.put, List.setIfInBounds_toArray, List.set_cons_zero, List.set_cons_succ]
                refine heldOne (i := 6) (by kernel_rfl) (opCall (i := 6) (d := 61) (f := 59) (args := #[.slice (some ⟨bd, od, none⟩) 33 cb, .int .i64 9]) rfl (by kernel_rfl) rfl (by kernel_rfl) ((fourHigh_any (.slice (some ⟨bd, od, none⟩) 33 cb) b 9 wc15 (sl2_b.below ec15) (by rw [HL33.out]; decide)).mono ?_))
                rintro e' wc16 ⟨rfl, n16, hn16⟩
                have bc16 : Below wc15.heap.size wc15 wc16 := by rw [hn16]; exact below_drewN (Below.refl _ _) n16
                rw [HBV.out.2.2]
                have ec16 : Below W2.heap.size W2 wc16 := ec15.trans (bc16.mono ec15.size)
                have rg16 := (bc16.block _ (Array.getElem?_eq_some_iff.1 rg15).1).trans rg15
                refine ⟨_, rfl, ec16, ?_⟩
                simp only [Act.put, List.setIfInBounds_toArray, List.set_cons_zero, List.set_cons_succ]
                refine heldTake (i := 7) 62 (v := .agg #[.int .i64 vr, .int .i64 vn]) rfl rfl (by kernel_rfl) (by kernel_rfl) (by kernel_rfl) (fun _ _ _ h => h) (Or.inl ⟨by rfl, fun _ _ => by kernel_rfl⟩) ec16 ?_
                simp only [Act.put, List.setIfInBounds_toArray, List.set_cons_zero, List.set_cons_succ]
                refine heldTake (i := 9) 64 (v := .agg #[.int .i64 vs, .int .i64 vr, .int .i64 vn, .int .i64 vk, .int .i64 vc, .int .i64 vq, .int .i64 vm, .int .i64 vx]) rfl rfl (by kernel_rfl) (by kernel_rfl) (by kernel_rfl) (fun _ _ _ h => h) (Or.inl ⟨by rfl, fun _ _ => by kernel_rfl⟩) ec16 ?_
                simp only [Act.put, List.setIfInBounds_toArray, List.set_cons_zero, List.set_cons_succ]
                refine heldOne (i := 10) (by kernel_rfl) (opCall (i := 10) (d := 65) (f := 61) (args := #[.agg #[.int .i64 pr, .int .i64 pn, .slice ax M cp], .agg #[.int .i64 vs, .int .i64 vr, .int .i64 vn, .int .i64 vk, .int .i64 vc, .int .i64 vq, .int .i64 vm, .int .i64 vx]]) rfl (by kernel_rfl) rfl (by kernel_rfl) ((acceptedBy_any ⟨pr, pn⟩ (.slice ax M cp) l ⟨vs, ⟨vr, vn⟩, ⟨vk, vc, vq, vm, vx⟩⟩ wc16 (sl2_x.below ec16)).mono ?_))
                rintro e' wc17 ⟨y17, rfl, sy17, bc17⟩
                rw [HP1.out.1, HP1.out.2.2.1]
                rw [HP1.out.2.1] at sy17
                obtain ⟨ay17, cy17, hy17⟩ := sy17.shape
                rw [HP1.out.2.2.2] at hy17
                subst hy17
                simp only [acA]
                have ec17 : Below W2.heap.size W2 wc17 := ec16.trans (bc17.mono ec16.size)
                have rg17 := (bc17.block _ (Array.getElem?_eq_some_iff.1 rg16).1).trans rg16
                refine ⟨_, rfl, ec17, ?_⟩
                simp only [Act.put, List.setIfInBounds_toArray, List.set_cons_zero, List.set_cons_succ]
                refine heldTake (i := 11) 54 (v := .tuple #[.agg #[.int .i64 qr, .int .i64 qn, .slice ay17 K1 cy17], .int .i64 E1]) rfl rfl (by kernel_rfl) (by kernel_rfl) (by kernel_rfl) (fun _ _ _ h => h) (Or.inl ⟨by rfl, fun _ _ => by kernel_rfl⟩) ec17 ?_
                simp only [Act.put, List.setIfInBounds_toArray, List.set_cons_zero, List.set_cons_succ]
                refine heldTake (i := 12) 66 (v := .agg #[.int .i64 qr, .int .i64 qn, .slice ay17 K1 cy17]) rfl rfl (by kernel_rfl) (by kernel_rfl) (by kernel_rfl) (fun _ _ _ h => h) (Or.inl ⟨by rfl, fun _ _ => by kernel_rfl⟩) ec17 ?_
                simp only [Act.put, List.setIfInBounds_toArray, List.set_cons_zero, List.set_cons_succ]
                refine heldTake (i := 13) 67 (v := .int .i64 E1) rfl rfl (by kernel_rfl) (by kernel_rfl) (by kernel_rfl) (fun _ _ _ h => h) (Or.inl ⟨by rfl, fun _ _ => by kernel_rfl⟩) ec17 ?_
                simp only [Act.put, List.setIfInBounds_toArray, List.set_cons_zero, List.set_cons_succ]
                have hone18 : (#[.int .i64 qr, .int .i64 qn, .slice ay17 K1 cy17] : Array Value).all (·.oneCell') = true := by simp [Value.oneCell']
                refine heldOne (i := 15) (by kernel_rfl) (opStore (i := 15) rfl (by kernel_rfl) rfl 41 (.tmp 11) (.tmp 66) rfl gv14 #[.int .i64 qr, .int .i64 qn, .slice ay17 K1 cy17] (by kernel_rfl) (by kernel_rfl) 41 _ rg17 acSz3 rfl hone18 ⟨tBelow_row ec17 hgle14 _, ?_⟩)
                have eS18 := tBelow_row ec17 hgle14 (#[.int .i64 qr, .int .i64 qn, .slice ay17 K1 cy17])
                have rS18 := setRow_heap _ gv14 _ (#[.int .i64 qr, .int .i64 qn, .slice ay17 K1 cy17]) 41 _ rg17
                have sy_18 := sy17.otherRow rg17 (by simp) (#[.int .i64 qr, .int .i64 qn, .slice ay17 K1 cy17])
                refine heldTake (i := 16) 12 (v := .int .i64 E1) rfl rfl (by kernel_rfl) (by kernel_rfl) (by kernel_rfl) (fun _ _ _ h => h) (Or.inl ⟨by rfl, fun _ _ => by kernel_rfl⟩) eS18 ?_
                simp only [Act.put, List.setIfInBounds_toArray, List.set_cons_zero, List.set_cons_succ]
                exact wpAnyH_done (by kernel_rfl) (HK2.out gv14 ay17 cy17 _ ⟨rS18, sy_18, eS18⟩) _
            · obtain ⟨gv19, hgv19⟩ : ∃ g, g = W2.drew.heap.size := ⟨_, rfl⟩
              have aG19 : Below W2.drew.heap.size W2.drew (W2.drew.alloc (.cells #[.int .i64 0, .int .i64 0, .slice none 0 0] 41)) := (Below.refl _ _).alloc (Nat.le_refl _) _
              have eG19 : Below W2.heap.size W2 (W2.drew.alloc (.cells #[.int .i64 0, .int .i64 0, .slice none 0 0] 41)) := ed.trans (aG19.mono ed.size)
              have rG19 : (W2.drew.alloc (.cells #[.int .i64 0, .int .i64 0, .slice none 0 0] 41)).heap[gv19]? = some (.cells #[.int .i64 0, .int .i64 0, .slice none 0 0] 41) := by rw [hgv19]; exact heap_alloc_new _ _
              have hgle19 : W2.heap.size ≤ gv19 := by rw [hgv19]; exact ed.size
              refine (opRun (i := 14) (d := 11) (v := .pointer (some ⟨gv19, 0, none⟩)) (w' := W2.drew.alloc (.cells #[.int .i64 0, .int .i64 0, .slice none 0 0] 41)) rfl (by kernel_rfl) rfl (by rw [hgv19]; kernel_rfl) ⟨eG19, ?_⟩)
              simp only [Act.put, List.setIfInBounds_toArray, List.set_cons_zero, List.set_cons_succ]
              refine heldOne (i := 2) (by kernel_rfl) (opCall (i := 2) (d := 57) (f := 59) (args := #[.slice (some ⟨bd, od, none⟩) 33 cb, .int .i64 1]) rfl (by kernel_rfl) rfl (by kernel_rfl) ((fourHigh_any (.slice (some ⟨bd, od, none⟩) 33 cb) b 1 (W2.drew.alloc (.cells #[.int .i64 0, .int .i64 0, .slice none 0 0] 41)) (sl2_b.below eG19) (by rw [HL33.out]; decide)).mono ?_))
              rintro e' wc20 ⟨rfl, n20, hn20⟩
              have bc20 : Below (W2.drew.alloc (.cells #[.int .i64 0, .int .i64 0, .slice none 0 0] 41)).heap.size (W2.drew.alloc (.cells #[.int .i64 0, .int .i64 0, .slice none 0 0] 41)) wc20 := by rw [hn20]; exact below_drewN (Below.refl _ _) n20
              rw [HBV.out.1]
              have ec20 : Below W2.heap.size W2 wc20 := eG19.trans (bc20.mono eG19.size)
              have rg20 := (bc20.block _ (Array.getElem?_eq_some_iff.1 rG19).1).trans rG19
              refine ⟨_, rfl, ec20, ?_⟩
              simp only [Act.put, List.setIfInBounds_toArray, List.set_cons_zero, List.set_cons_succ]
              refine heldOne (i := 4) (by kernel_rfl) (opCall (i := 4) (d := 59) (f := 59) (args := #[.slice (some ⟨bd, od, none⟩) 33 cb, .int .i64 5]) rfl (by kernel_rfl) rfl (by kernel_rfl) ((fourHigh_any (.slice (some ⟨bd, od, none⟩) 33 cb) b 5 wc20 (sl2_b.below ec20) (by rw [HL33.out]; decide)).mono ?_))
              rintro e' wc21 ⟨rfl, n21, hn21⟩
              have bc21 : Below wc20.heap.size wc20 wc21 := by rw [hn21]; exact below_drewN (Below.refl _ _) n21
              rw [HBV.out.2.1]
              have ec21 : Below W2.heap.size W2 wc21 := ec20.trans (bc21.mono ec20.size)
              have rg21 := (bc21.block _ (Array.getElem?_eq_some_iff.1 rg20).1).trans rg20
              refine ⟨_, rfl, ec21, ?_⟩
              simp only [Act.put, List.setIfInBounds_toArray, List.set_cons_zero, List.set_cons_succ]
              refine heldOne (i := 6) (by kernel_rfl) (opCall (i := 6) (d := 61) (f := 59) (args := #[.slice (some ⟨bd, od, none⟩) 33 cb, .int .i64 9]) rfl (by kernel_rfl) rfl (by kernel_rfl) ((fourHigh_any (.slice (some ⟨bd, od, none⟩) 33 cb) b 9 wc21 (sl2_b.below ec21) (by rw [HL33.out]; decide)).mono ?_))
              rintro e' wc22 ⟨rfl, n22, hn22⟩
              have bc22 : Below wc21.heap.size wc21 wc22 := by rw [hn22]; exact below_drewN (Below.refl _ _) n22
              rw [HBV.out.2.2]
              have ec22 : Below W2.heap.size W2 wc22 := ec21.trans (bc22.mono ec21.size)
              have rg22 := (bc22.block _ (Array.getElem?_eq_some_iff.1 rg21).1).trans rg21
              refine ⟨_, rfl, ec22, ?_⟩
              simp only [Act.put, List.setIfInBounds_toArray, List.set_cons_zero, List.set_cons_succ]
              refine heldTake (i := 7) 62 (v := .agg #[.int .i64 vr, .int .i64 vn]) rfl rfl (by kernel_rfl) (by kernel_rfl) (by kernel_rfl) (fun _ _ _ h => h) (Or.inl ⟨by rfl, fun _ _ => by kernel_rfl⟩) ec22 ?_
              simp only [Act.put, List.setIfInBounds_toArray, List.set_cons_zero, List.set_cons_succ]
              refine heldTake (i := 9) 64 (v := .agg #[.int .i64 vs, .int .i64 vr, .int .i64 vn, .int .i64 vk, .int .i64 vc, .int .i64 vq, .int .i64 vm, .int .i64 vx]) rfl rfl (by kernel_rfl) (by kernel_rfl) (by kernel_rfl) (fun _ _ _ h => h) (Or.inl ⟨by rfl, fun _ _ => by kernel_rfl⟩) ec22 ?_
              simp only [Act.put, List.setIfInBounds_toArray, List.set_cons_zero, List.set_cons_succ]
              refine heldOne (i := 10) (by kernel_rfl) (opCall (i := 10) (d := 65) (f := 61) (args := #[.agg #[.int .i64 pr, .int .i64 pn, .slice ax M cp], .agg #[.int .i64 vs, .int .i64 vr, .int .i64 vn, .int .i64 vk, .int .i64 vc, .int .i64 vq, .int .i64 vm, .int .i64 vx]]) rfl (by kernel_rfl) rfl (by kernel_rfl) ((acceptedBy_any ⟨pr, pn⟩ (.slice ax M cp) l ⟨vs, ⟨vr, vn⟩, ⟨vk, vc, vq, vm, vx⟩⟩ wc22 (sl2_x.below ec22)).mono ?_))
              rintro e' wc23 ⟨y23, rfl, sy23, bc23⟩
              rw [HP1.out.1, HP1.out.2.2.1]
              rw [HP1.out.2.1] at sy23
              obtain ⟨ay23, cy23, hy23⟩ := sy23.shape
              rw [HP1.out.2.2.2] at hy23
              subst hy23
              simp only [acA]
              have ec23 : Below W2.heap.size W2 wc23 := ec22.trans (bc23.mono ec22.size)
              have rg23 := (bc23.block _ (Array.getElem?_eq_some_iff.1 rg22).1).trans rg22
              refine ⟨_, rfl, ec23, ?_⟩
              simp only [Act.put, List.setIfInBounds_toArray, List.set_cons_zero, List.set_cons_succ]
              refine heldTake (i := 11) 54 (v := .tuple #[.agg #[.int .i64 qr, .int .i64 qn, .slice ay23 K1 cy23], .int .i64 E1]) rfl rfl (by kernel_rfl) (by kernel_rfl) (by kernel_rfl) (fun _ _ _ h => h) (Or.inl ⟨by rfl, fun _ _ => by kernel_rfl⟩) ec23 ?_
              simp only [Act.put, List.setIfInBounds_toArray, List.set_cons_zero, List.set_cons_succ]
              refine heldTake (i := 12) 66 (v := .agg #[.int .i64 qr, .int .i64 qn, .slice ay23 K1 cy23]) rfl rfl (by kernel_rfl) (by kernel_rfl) (by kernel_rfl) (fun _ _ _ h => h) (Or.inl ⟨by rfl, fun _ _ => by kernel_rfl⟩) ec23 ?_
              simp only [Act.put, List.setIfInBounds_toArray, List.set_cons_zero, List.set_cons_succ]
              refine heldTake (i := 13) 67 (v := .int .i64 E1) rfl rfl (by kernel_rfl) (by kernel_rfl) (by kernel_rfl) (fun _ _ _ h => h) (Or.inl ⟨by rfl, fun _ _ => by kernel_rfl⟩) ec23 ?_
              simp only [Act.put, List.setIfInBounds_toArray, List.set_cons_zero, List.set_cons_succ]
              have hone24 : (#[.int .i64 qr, .int .i64 qn, .slice ay23 K1 cy23] : Array Value).all (·.oneCell') = true := by simp [Value.oneCell']
              refine heldOne (i := 15) (by kernel_rfl) (opStore (i := 15) rfl (by kernel_rfl) rfl 41 (.tmp 11) (.tmp 66) rfl gv19 #[.int .i64 qr, .int .i64 qn, .slice ay23 K1 cy23] (by kernel_rfl) (by kernel_rfl) 41 _ rg23 acSz3 rfl hone24 ⟨tBelow_row ec23 hgle19 _, ?_⟩)
              have eS24 := tBelow_row ec23 hgle19 (#[.int .i64 qr, .int .i64 qn, .slice ay23 K1 cy23])
              have rS24 := setRow_heap _ gv19 _ (#[.int .i64 qr, .int .i64 qn, .slice ay23 K1 cy23]) 41 _ rg23
              have sy_24 := sy23.otherRow rg23 (by simp) (#[.int .i64 qr, .int .i64 qn, .slice ay23 K1 cy23])
              refine heldTake (i := 16) 12 (v := .int .i64 E1) rfl rfl (by kernel_rfl) (by kernel_rfl) (by kernel_rfl) (fun _ _ _ h => h) (Or.inl ⟨by rfl, fun _ _ => by kernel_rfl⟩) eS24 ?_
              simp only [Act.put, List.setIfInBounds_toArray, List.set_cons_zero, List.set_cons_succ]
              exact wpAnyH_done (by kernel_rfl) (HK2.out gv19 ay23 cy23 _ ⟨rS24, sy_24, eS24⟩) _
          rintro g a c Wz ⟨qg, sg, eg⟩
          have rz_r := (eg.block _ lw2_r).trans rw2_r
          have lz_r := Nat.lt_of_lt_of_le lw2_r eg.size
          have dz := d2.trans (eg.mono d2.size)
          clear hr_p hr_gC rw2_p rw2_r qN2
          have onR : (#[.int .i64 qr, .int .i64 qn, .slice a K1 c] : Array Value).all (·.oneCell') = true := by simp [Value.oneCell']
          go_wp2_with (first | ((with_reducible (refine tpLook ?_)); (refine wpList_load_row rfl 41 _ rfl g rfl 41 _ (0, 0) _ qg Tryd.underlying41 rfl acSz3 ?_)) | ((with_reducible (refine tpLook ?_)); (refine wpList_store_row rfl 41 (.tmp 4) (.tmp 68) rfl (w.heap.size + 1) #[.int .i64 qr, .int .i64 qn, .slice a K1 c] rfl rfl 41 _ rz_r acSz3 rfl onR ?_)))
          have qR := setRow_heap Wz (w.heap.size + 1) _ (#[.int .i64 qr, .int .i64 qn, .slice a K1 c]) 41 _ rz_r
          have dR := tBelow_row dz (show w.heap.size ≤ w.heap.size + 1 by omega) (#[.int .i64 qr, .int .i64 qn, .slice a K1 c])
          have sR := sg.otherRow rz_r (by simp) (#[.int .i64 qr, .int .i64 qn, .slice a K1 c])
          refine bodyPost_ret (tRow2 rfl _ _ (w.heap.size + 1) 41 _ (0, 0) _ rfl qR Tryd.underlying41 rfl acSz3) rfl ?_
          rw [HD.out.1, HD.out.2]
          exact ⟨_, rfl, sR, dR⟩
        · have hD : decV (b.drop 13) = #[.int .i64 0, .int .i64 0, .int .i64 0, .int .i64 0, .int .i64 0] := decV_neg h1
          have HDD2 := HDD.out
          rw [if_neg h1, if_neg h1] at HDD2
          have HD : Hid ((doneB ⟨⟨pr, pn⟩, l⟩ b).isSome = false ∧ donA ⟨⟨pr, pn⟩, l⟩ b = a0) := ⟨by rw [doneB_eq, HDD2.1, if_neg h1]; rfl, HDD2.2⟩
          obtain ⟨E, hE⟩ : ∃ E, decE (b.drop 13) = E := ⟨_, rfl⟩
          rw [hE] at h1
          rw [hD, hE]
          have h1b : (E == 0) = false := by simpa using h1
          clear h1 HDD HDD2 hD hE
          have bN2 : Below w1.heap.size w1 (w1.alloc (.cells #[.int .i64 0, .int .i64 0, .int .i64 0, .int .i64 0, .int .i64 0] 34)) := (Below.refl _ _).alloc (Nat.le_refl _) _
          have rN2 := heap_alloc_new w1 (.cells #[.int .i64 0, .int .i64 0, .int .i64 0, .int .i64 0, .int .i64 0] 34)
          have on2 : (#[.int .i64 0, .int .i64 0, .int .i64 0, .int .i64 0, .int .i64 0] : Array Value).all (·.oneCell') = true := by simp [Value.oneCell']
          generalize hN2 : w1.alloc (.cells #[.int .i64 0, .int .i64 0, .int .i64 0, .int .i64 0, .int .i64 0] 34) = N2 at bN2 rN2
          go_upto_region 6 with ((with_reducible (refine tpLook ?_)); (refine wpList_store_row rfl 34 (.tmp 9) (.tmp 49) rfl w1.heap.size #[.int .i64 0, .int .i64 0, .int .i64 0, .int .i64 0, .int .i64 0] rfl rfl 34 _ rN2 cmSz5 rfl on2 ?_))
          clear hN2
          have qN2 := setRow_heap N2 w1.heap.size _ (#[.int .i64 0, .int .i64 0, .int .i64 0, .int .i64 0, .int .i64 0]) 34 _ rN2
          replace bN2 := tBelow_row bN2 (Nat.le_refl _) (#[.int .i64 0, .int .i64 0, .int .i64 0, .int .i64 0, .int .i64 0])
          generalize N2.setRow w1.heap.size (#[.int .i64 0, .int .i64 0, .int .i64 0, .int .i64 0, .int .i64 0]) = W2 at qN2 bN2 ⊢
          have lN2 : w1.heap.size < W2.heap.size := (Array.getElem?_eq_some_iff.1 qN2).1
          clear rN2 on2
          have d2 := d1.trans (bN2.mono d1.size)
          have rw2_p := (bN2.block _ lw1_p).trans rw1_p
          have lw2_p := Nat.lt_of_lt_of_le lw1_p bN2.size
          have rw2_r := (bN2.block _ lw1_r).trans rw1_r
          have lw2_r := Nat.lt_of_lt_of_le lw1_r bN2.size
          have sl2_x := sl1_x.below bN2
          have sl2_b := sl1_b.below bN2
          have sl2_s1 := sl1_s1.below bN2
          clear lw1_p rw1_p lw1_r rw1_r sl1_x sl1_b sl1_s1
          obtain ⟨gC, hgC⟩ : ∃ g, g = w1.heap.size := ⟨_, rfl⟩
          rw [← hgC] at qN2 lN2 ⊢
          clear hgC bN2
          have onR : (#[.int .i64 0, .int .i64 0, .slice none 0 0] : Array Value).all (·.oneCell') = true := by simp [Value.oneCell']
          go_wp2_with ((with_reducible (refine tpLook ?_)); (refine wpList_store_row rfl 41 (.tmp 4) (.tmp 53) rfl (w.heap.size + 1) #[.int .i64 0, .int .i64 0, .slice none 0 0] rfl rfl 41 _ rw2_r acSz3 rfl onR ?_))
          have qR := setRow_heap W2 (w.heap.size + 1) _ (#[.int .i64 0, .int .i64 0, .slice none 0 0]) 41 _ rw2_r
          have dR := tBelow_row d2 (show w.heap.size ≤ (w.heap.size + 1) by omega) (#[.int .i64 0, .int .i64 0, .slice none 0 0])
          refine bodyPost_ret (tRow2 rfl _ _ (w.heap.size + 1) 41 _ (0, 0) _ rfl qR Tryd.underlying41 rfl acSz3) rfl ?_
          rw [HD.out.1, HD.out.2]
          exact ⟨.slice none 0 0, rfl, Sv.nil0 _, dR⟩
      · have HD : Hid ((doneB ⟨⟨pr, pn⟩, l⟩ b).isSome = false ∧ donA ⟨⟨pr, pn⟩, l⟩ b = a0) := by
          have h3 : donE ⟨⟨pr, pn⟩, l⟩ b = 3 ∧ donA ⟨⟨pr, pn⟩, l⟩ b = a0 := ⟨(if_neg (fun g => H9.out g.1)).trans (if_neg (fun g => c2b g.2)), (if_neg (fun g => H9.out g.1)).trans (if_neg (fun g => c2b g.2))⟩
          exact ⟨by rw [doneB_eq, h3.1, if_neg (by decide)]; rfl, h3.2⟩
        generalize b.getD 0 0 = B0 at hc hx c2b
        have hB1 : (B0 == 2) = false := by simpa using c2b
        clear c2b r1 s1
        obtain ⟨W0, hW0⟩ : ∃ W0, (w.alloc (.cells #[.int .i64 pr, .int .i64 pn, .slice ax M cp] 41)).alloc (.cells #[.int .i64 0, .int .i64 0, .slice none 0 0] 41) = W0 := ⟨_, rfl⟩
        have r0_p : W0.heap[w.heap.size]? = some (.cells #[.int .i64 pr, .int .i64 pn, .slice ax M cp] 41) := by rw [← hW0]; exact t_alloc2_0 _ _ _
        have r0_r : W0.heap[w.heap.size + 1]? = some (.cells #[.int .i64 0, .int .i64 0, .slice none 0 0] 41) := by rw [← hW0]; exact t_alloc2_1 _ _ _
        have bb : Below w.heap.size w W0 := by rw [← hW0]; exact t_allocB2 _ _ _
        have l0_p : w.heap.size < W0.heap.size := (Array.getElem?_eq_some_iff.1 r0_p).1
        have l0_r : (w.heap.size + 1) < W0.heap.size := (Array.getElem?_eq_some_iff.1 r0_r).1
        have sl0_x := h.below bb
        have sl0_b := hb.below bb
        go_enter Tryd.func36, Tryd.ntmps36
        have hcW : W0.cell? ⟨bd, od, none⟩ = some (.int .u8 B0) := (bb.cell (p := ⟨bd, od, none⟩) hbd).trans hc
        have hRB : w.heap.size + 1 < W0.heap.size := l0_r
        have onR : (#[.int .i64 0, .int .i64 0, .slice none 0 0] : Array Value).all (·.oneCell') = true := by simp [Value.oneCell']
        go_wp2_with ((with_reducible (refine tpLook ?_)); (refine wpList_store_row rfl 41 (.tmp 4) (.tmp 71) rfl (w.heap.size + 1) #[.int .i64 0, .int .i64 0, .slice none 0 0] rfl rfl 41 _ r0_r acSz3 rfl onR ?_))
        have qR := setRow_heap W0 (w.heap.size + 1) _ (#[.int .i64 0, .int .i64 0, .slice none 0 0]) 41 _ r0_r
        have dR := tBelow_row bb (show w.heap.size ≤ (w.heap.size + 1) by omega) (#[.int .i64 0, .int .i64 0, .slice none 0 0])
        refine bodyPost_ret (tRow2 rfl _ _ (w.heap.size + 1) 41 _ (0, 0) _ rfl qR Tryd.underlying41 rfl acSz3) rfl ?_
        rw [HD.out.1, HD.out.2]
        exact ⟨.slice none 0 0, rfl, Sv.nil0 _, dR⟩
    · have HD : Hid ((doneB ⟨⟨pr, pn⟩, l⟩ b).isSome = false ∧ donA ⟨⟨pr, pn⟩, l⟩ b = a0) := by
        have h3 : donE ⟨⟨pr, pn⟩, l⟩ b = 3 ∧ donA ⟨⟨pr, pn⟩, l⟩ b = a0 := ⟨(if_neg (fun g => c9 g.1)).trans (if_neg (fun g => c33 g.1)), (if_neg (fun g => c9 g.1)).trans (if_neg (fun g => c33 g.1))⟩
        exact ⟨by rw [doneB_eq, h3.1, if_neg (by decide)]; rfl, h3.2⟩
      have k33 : ((b.length : Int) == 33) = false := by simp; omega
      generalize b.length = N at k9 k33 hbl ⊢
      clear c9 c33 HB0 hb hx H9
      obtain ⟨W0, hW0⟩ : ∃ W0, (w.alloc (.cells #[.int .i64 pr, .int .i64 pn, .slice ax M cp] 41)).alloc (.cells #[.int .i64 0, .int .i64 0, .slice none 0 0] 41) = W0 := ⟨_, rfl⟩
      have r0_p : W0.heap[w.heap.size]? = some (.cells #[.int .i64 pr, .int .i64 pn, .slice ax M cp] 41) := by rw [← hW0]; exact t_alloc2_0 _ _ _
      have r0_r : W0.heap[w.heap.size + 1]? = some (.cells #[.int .i64 0, .int .i64 0, .slice none 0 0] 41) := by rw [← hW0]; exact t_alloc2_1 _ _ _
      have bb : Below w.heap.size w W0 := by rw [← hW0]; exact t_allocB2 _ _ _
      have l0_p : w.heap.size < W0.heap.size := (Array.getElem?_eq_some_iff.1 r0_p).1
      have l0_r : (w.heap.size + 1) < W0.heap.size := (Array.getElem?_eq_some_iff.1 r0_r).1
      have sl0_x := h.below bb
      go_enter Tryd.func36, Tryd.ntmps36
      have hRB : w.heap.size + 1 < W0.heap.size := l0_r
      have onR : (#[.int .i64 0, .int .i64 0, .slice none 0 0] : Array Value).all (·.oneCell') = true := by simp [Value.oneCell']
      go_wp2_with ((with_reducible (refine tpLook ?_)); (refine wpList_store_row rfl 41 (.tmp 4) (.tmp 71) rfl (w.heap.size + 1) #[.int .i64 0, .int .i64 0, .slice none 0 0] rfl rfl 41 _ r0_r acSz3 rfl onR ?_))
      have qR := setRow_heap W0 (w.heap.size + 1) _ (#[.int .i64 0, .int .i64 0, .slice none 0 0]) 41 _ r0_r
      have dR := tBelow_row bb (show w.heap.size ≤ (w.heap.size + 1) by omega) (#[.int .i64 0, .int .i64 0, .slice none 0 0])
      refine bodyPost_ret (tRow2 rfl _ _ (w.heap.size + 1) 41 _ (0, 0) _ rfl qR Tryd.underlying41 rfl acSz3) rfl ?_
      rw [HD.out.1, HD.out.2]
      exact ⟨.slice none 0 0, rfl, Sv.nil0 _, dR⟩
end Go.Proofs.YthmlikljeoamgaaDoor
