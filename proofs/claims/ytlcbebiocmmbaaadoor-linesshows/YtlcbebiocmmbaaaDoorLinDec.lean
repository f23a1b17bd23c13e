/-
  The walk of the document's digits.
-/
import Derived.Test.YtlcbebiocmmbaaaDoorLinStr
import Derived.Test.YtlcbebiocmmbaaaDoorHeldBase
import Derived.Great.BuildSlice
namespace Go.Proofs.YtlcbebiocmmbaaaDoor
open Go.RowKit
set_option linter.unusedVariables false

theorem d_merge {P : Program} {id : Nat} {ops : Array Oper} {K : Act → World → Prop} {Q : Exit → Act → World → Prop} {a : Act} {w : World} (R : Nat → World → Prop) {A : Nat → Act}
    (hreg : ∀ K' : Act → World → Prop, Hid (∀ g W2, R g W2 → K' (A g) W2) → (Code.region id ops true).wp P (Exit.then K' Q) a w) (hrest : ∀ g W2, R g W2 → K (A g) W2) : (Code.region id ops true).wp P (Exit.then K Q) a w := hreg K hrest
/-- a byte in a row of its own -/
theorem one_sl (w : World) (c : Int) (h0 : 0 ≤ c) (h1 : c < 256) : Sl (w.alloc (.cells #[.int .u8 c] 5)) (.slice (some ⟨w.heap.size, 0, none⟩) 1 1) [c] := by
  have hr := heap_alloc_new w (.cells #[.int .u8 c] 5)
  refine ⟨⟨_, 1, rfl, by simp, by simp, .inr ⟨w.heap.size, 0, rfl, by simp, fun i hi => ?_⟩⟩, by simp, fun x hx => by simp at hx; omega⟩
  obtain rfl : i = 0 := by simpa using hi
  rw [cell_of_row _ _ _ _ _ _ hr]
  rfl
set_option maxRecDepth 100000 in
theorem run_build1 (c : Int) (w : World) : (Instr.buildSlice 22 1 #[(0, .int .u8 c)]).run Tryd.prog w = .ok (.slice (some ⟨w.heap.size, 0, none⟩) 1 1) (w.alloc (.cells #[.int .u8 c] 5)) := by
  obtain ⟨ie, hie, hz, hsz, _⟩ := info_parts (P := Tryd.prog) (e := 5) (z := .int .u8 0) (size := 1) (bytes := 1) (by kernel_rfl)
  refine run_buildSlice w 22 5 1 _ _ ie (.int .u8 0) Tryd.underlying22 hie hz (by rw [hsz]; decide) (by rw [hsz]; decide) ?_
  rw [hsz]
  kernel_rfl
theorem opBuild1 {ops : Array Oper} {Q : Exit → Act → World → Prop} {i d : Nat} {o : Oper} {a : Act} {w : World} {K : Act → World → Prop} (ho : ops[i]? = some o) (hw : Region.wanted o (yielded ops a.tmps) = true) (hd : o.dst = some d) (x : Operand)
    (hop : o.op = .buildSlice 22 1 #[(0, x)]) (c : Int) (hx : a.eval x = .int .u8 c)
    (h : K (a.put (some d) (.slice (some ⟨w.heap.size, 0, none⟩) 1 1)) (w.alloc (.cells #[.int .u8 c] 5))) : wpOp Tryd.prog ops Q i K a w := by
  refine opRun ho hw hd ?_ h
  unfold execOp
  simp only [hop, Sem.run_bind, List.map_toArray, List.map_cons, List.map_nil, hx, run_build1, Result.andThen_ok, Sem.run_pure]
theorem opConv {P : Program} {ops : Array Oper} {Q : Exit → Act → World → Prop} {i d : Nat} {o : Oper} {a : Act} {w : World} {K : Act → World → Prop} (ho : ops[i]? = some o) (hw : Region.wanted o (yielded ops a.tmps) = true) (hd : o.dst = some d) (t u : TypeId) (x : Operand)
    (hop : o.op = .convert t u x) (v r : Value) (hx : a.eval x = v) (hr : (Go.convert t u v).run P w = .ok r w) (h : K (a.put (some d) r) w) : wpOp P ops Q i K a w := by
  refine opRun ho hw hd ?_ h
  unfold execOp
  simp only [hop, hx, Sem.run_bind, hr, Result.andThen_ok, Sem.run_pure]
set_option maxHeartbeats 2000000 in
set_option maxRecDepth 100000 in
theorem dec_any (n : Nat) (hn : n ≤ 4000000000) (w : World) :
    Calls Tryd.prog 42 #[.int .i64 (n : Int)] w fun e w' => e = .returned (.string (strOfNums (decL n))) ∧ Below w.heap.size w w' := by
  induction n using Nat.strongRecOn generalizing w with
  | ind n ih =>
    by_cases h : n < 10
    · have HD : Hid (decL n = [48 + (n : Int)]) := decL_low h
      have hI : (n : Int) < 10 := by omega
      have c1 := run_convert_sl (P := Tryd.prog) _ 22 9 5 Tryd.underlying22 Tryd.underlying5 Tryd.underlying9 _ _ (one_sl w (48 + (n : Int)) (by omega) (by omega))
      have bW : Below w.heap.size w (w.alloc (.cells #[.int .u8 (48 + (n : Int))] 5)) := (Below.refl _ _).alloc (Nat.le_refl _) _
      clear ih
      go_enter Tryd.func42, Tryd.ntmps42
      go_wp2
      go_ret
      rw [HD.out]
      exact ⟨rfl, bW⟩
    · have HD : Hid (decL n = decL (n / 10) ++ [48 + ((n % 10 : Nat) : Int)]) := decL_up h
      have HL : Hid ((decL (n / 10)).length ≤ 10) := decL_len 9 (by omega)
      have IH := ih (n / 10) (by omega) (by omega)
      have HIH : Hid (∀ w, Calls Tryd.prog 42 #[.int .i64 ((n / 10 : Nat) : Int)] w fun e w' => e = .returned (.string (strOfNums (decL (n / 10)))) ∧ Below w.heap.size w w') := IH
      have hI : ¬ (n : Int) < 10 := by omega
      clear ih IH h
      obtain ⟨S1, hS1⟩ : ∃ s, decL (n / 10) = s := ⟨_, rfl⟩
      rw [hS1] at HD HL HIH
      clear hS1
      obtain ⟨c, hc⟩ : ∃ c, c = 48 + ((n % 10 : Nat) : Int) := ⟨_, rfl⟩
      have c0 : 0 ≤ c := by omega
      have c2 : c < 256 := by omega
      have q1 := run_quoL 10 (by omega) (n : Int) (by omega) (by omega)
      have q2 := run_remL 10 (by omega) (n : Int) (by omega)
      have q3 := run_addL 48 ((n : Int) % 10) (by omega)
      have e1 : (n : Int) / 10 = ((n / 10 : Nat) : Int) := by omega
      have e2 : 48 + (n : Int) % 10 = c := by omega
      rw [e1] at q1
      rw [e2] at q3
      have q4 := run_byteL c c0 c2
      have q5 : ∀ w, (binOp .add 9 (.string (strOfNums S1)) (.string (strOfNums [c]))).run Tryd.prog w = .ok (.string (strOfNums (S1 ++ [c]))) w := fun w => run_cat _ _ w (by have := HL.out; simp; omega)
      rw [← hc] at HD
      go_enter Tryd.func42, Tryd.ntmps42
      go_wp2_with fail
      apply d_merge (fun _ W2 => Below w.heap.size w W2)
      · intro K2 HK2
        have ed : Below w.heap.size w w.drew := (Below.refl _ _).drew
        refine wp_region_held (S := fun w' => Below w.heap.size w w') (by kernel_rfl) ?_
        refine heldTake (i := 0) 10 (v := .int .i64 (n : Int)) rfl rfl (by kernel_rfl) (by kernel_rfl) (by kernel_rfl) (fun _ _ _ h => h) (Or.inl ⟨by rfl, fun _ _ => by kernel_rfl⟩) ed ?_
        simp only [Act.put, List.setIfInBounds_toArray, List.set_cons_zero, List.set_cons_succ]
        refine heldTake (i := 1) 11 (v := .int .i64 ((n / 10 : Nat) : Int)) rfl rfl (by kernel_rfl) (by kernel_rfl) (by kernel_rfl) (fun _ _ _ h => h) (yieldBin (by rfl) .quo 3 3 (.tmp 10) (.const (.int .i64 10)) rfl _ _ _ rfl rfl (fun _ => rfl) q1) ed ?_
        simp only [Act.put, List.setIfInBounds_toArray, List.set_cons_zero, List.set_cons_succ]
        refine heldTake (i := 3) 13 (v := .int .i64 (n : Int)) rfl rfl (by kernel_rfl) (by kernel_rfl) (by kernel_rfl) (fun _ _ _ h => h) (Or.inl ⟨by rfl, fun _ _ => by kernel_rfl⟩) ed ?_
        simp only [Act.put, List.setIfInBounds_toArray, List.set_cons_zero, List.set_cons_succ]
        refine heldTake (i := 4) 14 (v := .int .i64 ((n : Int) % 10)) rfl rfl (by kernel_rfl) (by kernel_rfl) (by kernel_rfl) (fun _ _ _ h => h) (yieldBin (by rfl) .rem 3 3 (.tmp 13) (.const (.int .i64 10)) rfl _ _ _ rfl rfl (fun _ => rfl) q2) ed ?_
        simp only [Act.put, List.setIfInBounds_toArray, List.set_cons_zero, List.set_cons_succ]
        refine heldTake (i := 5) 15 (v := .int .i64 c) rfl rfl (by kernel_rfl) (by kernel_rfl) (by kernel_rfl) (fun _ _ _ h => h) (yieldBin (by rfl) .add 3 3 (.const (.int .i64 48)) (.tmp 14) rfl _ _ _ rfl rfl (fun _ => rfl) q3) ed ?_
        simp only [Act.put, List.setIfInBounds_toArray, List.set_cons_zero, List.set_cons_succ]
        refine heldTake (i := 6) 16 (v := .int .u8 c) rfl rfl (by kernel_rfl) (by kernel_rfl) (by kernel_rfl) (fun _ _ _ h => h) (yieldConv (by rfl) 3 5 (.tmp 15) rfl _ _ rfl q4) ed ?_
        simp only [Act.put, List.setIfInBounds_toArray, List.set_cons_zero, List.set_cons_succ]
        refine heldTwo (i := 2) (i' := 7) (by kernel_rfl) ?_ ?_
        · refine (opCall (i := 2) (d := 12) (f := 42) (args := #[.int .i64 ((n / 10 : Nat) : Int)]) rfl (by kernel_rfl) rfl (by kernel_rfl) ((HIH.out w.drew).mono ?_))
          rintro e' wc1 ⟨rfl, bc1⟩
          have ec1 : Below w.heap.size w wc1 := ed.trans (bc1.mono ed.size)
          refine ⟨_, rfl, ec1, ?_⟩
          simp only [Act.put, List.setIfInBounds_toArray, List.set_cons_zero, List.set_cons_succ]
          have sl2 := one_sl wc1 c c0 c2
          have eb2 : Below w.heap.size w (wc1.alloc (.cells #[.int .u8 c] 5)) := ec1.trans (((Below.refl _ _).alloc (Nat.le_refl _) _).mono ec1.size)
          refine heldOne (i := 7) (by kernel_rfl) (opBuild1 (i := 7) (d := 17) rfl (by kernel_rfl) rfl (.tmp 16) rfl c (by kernel_rfl) ⟨eb2, ?_⟩)
          simp only [Act.put, List.setIfInBounds_toArray, List.set_cons_zero, List.set_cons_succ]
          have cv3 := run_convert_sl (P := Tryd.prog) _ 22 9 5 Tryd.underlying22 Tryd.underlying5 Tryd.underlying9 _ _ sl2
          refine heldOne (i := 8) (by kernel_rfl) (opConv (i := 8) (d := 18) rfl (by kernel_rfl) rfl 22 9 (.tmp 17) rfl _ _ (by kernel_rfl) cv3 ⟨eb2, ?_⟩)
          simp only [Act.put, List.setIfInBounds_toArray, List.set_cons_zero, List.set_cons_succ]
          refine heldTake (i := 9) 19 (v := .string (strOfNums (S1 ++ [c]))) rfl rfl (by kernel_rfl) (by kernel_rfl) (by kernel_rfl) (fun _ _ _ h => h) (yieldBin (by rfl) .add 9 9 (.tmp 12) (.tmp 18) rfl _ _ _ rfl rfl (fun _ => rfl) q5) eb2 ?_
          simp only [Act.put, List.setIfInBounds_toArray, List.set_cons_zero, List.set_cons_succ]
          refine heldTake (i := 10) 2 (v := .string (strOfNums (S1 ++ [c]))) rfl rfl (by kernel_rfl) (by kernel_rfl) (by kernel_rfl) (fun _ _ _ h => h) (Or.inl ⟨by rfl, fun _ _ => by kernel_rfl⟩) eb2 ?_
          simp only [Act.put, List.setIfInBounds_toArray, List.set_cons_zero, List.set_cons_succ]
          generalize wc1.heap.size = gx
          exact wpAnyH_done (by kernel_rfl) (HK2.out gx _ eb2) _
        · have sl4 := one_sl w.drew c c0 c2
          have eb4 : Below w.heap.size w (w.drew.alloc (.cells #[.int .u8 c] 5)) := ed.trans (((Below.refl _ _).alloc (Nat.le_refl _) _).mono ed.size)
          refine (opBuild1 (i := 7) (d := 17) rfl (by kernel_rfl) rfl (.tmp 16) rfl c (by kernel_rfl) ⟨eb4, ?_⟩)
          simp only [Act.put, List.setIfInBounds_toArray, List.set_cons_zero, List.set_cons_succ]
          refine heldTwo (i := 2) (i' := 8) (by kernel_rfl) ?_ ?_
          · refine (opCall (i := 2) (d := 12) (f := 42) (args := #[.int .i64 ((n / 10 : Nat) : Int)]) rfl (by kernel_rfl) rfl (by kernel_rfl) ((HIH.out (w.drew.alloc (.cells #[.int .u8 c] 5))).mono ?_))
            rintro e' wc5 ⟨rfl, bc5⟩
            have ec5 : Below w.heap.size w wc5 := eb4.trans (bc5.mono eb4.size)
            have sl5 := sl4.below bc5
            refine ⟨_, rfl, ec5, ?_⟩
            simp only [Act.put, List.setIfInBounds_toArray, List.set_cons_zero, List.set_cons_succ]
            have cv6 := run_convert_sl (P := Tryd.prog) _ 22 9 5 Tryd.underlying22 Tryd.underlying5 Tryd.underlying9 _ _ sl5
            refine heldOne (i := 8) (by kernel_rfl) (opConv (i := 8) (d := 18) rfl (by kernel_rfl) rfl 22 9 (.tmp 17) rfl _ _ (by kernel_rfl) cv6 ⟨ec5, ?_⟩)
            simp only [Act.put, List.setIfInBounds_toArray, List.set_cons_zero, List.set_cons_succ]
            refine heldTake (i := 9) 19 (v := .string (strOfNums (S1 ++ [c]))) rfl rfl (by kernel_rfl) (by kernel_rfl) (by kernel_rfl) (fun _ _ _ h => h) (yieldBin (by rfl) .add 9 9 (.tmp 12) (.tmp 18) rfl _ _ _ rfl rfl (fun _ => rfl) q5) ec5 ?_
            simp only [Act.put, List.setIfInBounds_toArray, List.set_cons_zero, List.set_cons_succ]
            refine heldTake (i := 10) 2 (v := .string (strOfNums (S1 ++ [c]))) rfl rfl (by kernel_rfl) (by kernel_rfl) (by kernel_rfl) (fun _ _ _ h => h) (Or.inl ⟨by rfl, fun _ _ => by kernel_rfl⟩) ec5 ?_
            simp only [Act.put, List.setIfInBounds_toArray, List.set_cons_zero, List.set_cons_succ]
            exact wpAnyH_done (by kernel_rfl) (HK2.out w.heap.size _ ec5) _
          · have cv7 := run_convert_sl (P := Tryd.prog) _ 22 9 5 Tryd.underlying22 Tryd.underlying5 Tryd.underlying9 _ _ sl4
            refine (opConv (i := 8) (d := 18) rfl (by kernel_rfl) rfl 22 9 (.tmp 17) rfl _ _ (by kernel_rfl) cv7 ⟨eb4, ?_⟩)
            simp only [Act.put, List.setIfInBounds_toArray, List.set_cons_zero, List.set_cons_succ]
            refine heldOne (i := 2) (by kernel_rfl) (opCall (i := 2) (d := 12) (f := 42) (args := #[.int .i64 ((n / 10 : Nat) : Int)]) rfl (by kernel_rfl) rfl (by kernel_rfl) ((HIH.out (w.drew.alloc (.cells #[.int .u8 c] 5))).mono ?_))
            rintro e' wc8 ⟨rfl, bc8⟩
            have ec8 : Below w.heap.size w wc8 := eb4.trans (bc8.mono eb4.size)
            have sl8 := sl4.below bc8
            refine ⟨_, rfl, ec8, ?_⟩
            simp only [Act.put, List.setIfInBounds_toArray, List.set_cons_zero, List.set_cons_succ]
            refine heldTake (i := 9) 19 (v := .string (strOfNums (S1 ++ [c]))) rfl rfl (by kernel_rfl) (by kernel_rfl) (by kernel_rfl) (fun _ _ _ h => h) (yieldBin (by rfl) .add 9 9 (.tmp 12) (.tmp 18) rfl _ _ _ rfl rfl (fun _ => rfl) q5) ec8 ?_
            simp only [Act.put, List.setIfInBounds_toArray, List.set_cons_zero, List.set_cons_succ]
            refine heldTake (i := 10) 2 (v := .string (strOfNums (S1 ++ [c]))) rfl rfl (by kernel_rfl) (by kernel_rfl) (by kernel_rfl) (fun _ _ _ h => h) (Or.inl ⟨by rfl, fun _ _ => by kernel_rfl⟩) ec8 ?_
            simp only [Act.put, List.setIfInBounds_toArray, List.set_cons_zero, List.set_cons_succ]
            exact wpAnyH_done (by kernel_rfl) (HK2.out w.heap.size _ ec8) _
      rintro gx W2 bW
      go_wp2
      go_ret
      rw [HD.out]
      exact ⟨rfl, bW⟩
end Go.Proofs.YtlcbebiocmmbaaaDoor
