/-
  The walk of a step of the program's ladder. (Written by gen_cstep.py.)
-/
import Derived.Test.YtdhoegkphhekfabDoorCuField
import Derived.Test.YtdhoegkphhekfabDoorRowByte
namespace Go.Proofs.YtdhoegkphhekfabDoor
open Go.RowKit

theorem cu_results2 {P : Program} {fn : Func} {p u : Tmp} {ty : TypeId} (h : fn.results = #[.cell p ty, .cell u ty]) (tmps : Array Value) (w : World) (g k : Nat) (t : TypeId) (cs ds : Array Value) (fr fr' : Nat × Nat) (d : TypeDesc)
    (hp : tmps.getD p undef = .pointer (some ⟨g, 0, none⟩)) (hq : tmps.getD u undef = .pointer (some ⟨k, 0, none⟩)) (hg : w.heap[g]? = some (.cells cs t fr)) (hk : w.heap[k]? = some (.cells ds t fr'))
    (hu : P.underlying ty = some d) (hd : (match d with | .struct _ | .array _ _ => true | _ => false) = true) (hi : (P.info? ty).map (·.size) = some cs.size) (hi' : (P.info? ty).map (·.size) = some ds.size) :
    (results fn tmps).run P w = .ok (.tuple #[.agg cs, .agg ds]) w := by
  have hp' : tmps[p]?.getD undef = .pointer (some ⟨g, 0, none⟩) := by simpa using hp
  have hq' : tmps[u]?.getD undef = .pointer (some ⟨k, 0, none⟩) := by simpa using hq
  simp only [results, h]
  simp [Sem.run_bind, Result.andThen, hp', hq', asAddr, run_loadVar_row w g t ty cs fr d hg hu hd hi, run_loadVar_row w k t ty ds fr' d hk hu hd hi']
theorem cu_built (x y : List Int) (hx : x.length = 16) (hy : y.length = 16) : Tryd.prog.built 37 [(0, .agg (lmA x)), (1, .agg (lmA y))] = some (lmA (x ++ y)) := by
  obtain ⟨a0, a1, a2, a3, a4, a5, a6, a7, a8, a9, a10, a11, a12, a13, a14, a15, rfl⟩ := list16 x hx
  obtain ⟨b0, b1, b2, b3, b4, b5, b6, b7, b8, b9, b10, b11, b12, b13, b14, b15, rfl⟩ := list16 y hy
  kernel_rfl
theorem cuOp_build {ops : Array Oper} {Q : Exit → Act → World → Prop} {i : Nat} {o : Oper} {a : Act} {w : World} {K : Act → World → Prop} (ho : ops[i]? = some o) (hw : Region.wanted o (yielded ops a.tmps) = true) (t : TypeId) (parts : Array (Nat × Operand)) (hop : o.op = .build t parts) (cells : Array Value)
    (hf : Tryd.prog.built t (parts.map fun (i, x) => (i, a.eval x)).toList = some cells) (h : K (a.put o.dst (.agg cells)) w) : wpOp Tryd.prog ops Q i K a w :=
  wpOp_step ho fun K' hK => by
    rw [if_pos hw]
    exact wp_build t parts hop (by rw [hf]; rfl) (by rw [hf]; exact hK _ _ h)

set_option maxHeartbeats 16000000 in
set_option maxRecDepth 100000 in
theorem cu_step {X2 Z2 X3 Z3 U : Cv.F} {a b c d u : List Int} (w : World) (ha : Nm X2 a) (hb : Nm Z2 b) (hc : Nm X3 c) (hd : Nm Z3 d) (hu : Nm U u) (ht : MTab w) :
    Calls Tryd.prog 19 #[.agg (lmA (a ++ b)), .agg (lmA (c ++ d)), .agg (lmA u)] w fun e w' => ∃ p q r s, e = .returned (.tuple #[.agg (lmA (p ++ q)), .agg (lmA (r ++ s))]) ∧ (Nm (Cv.lstep U ⟨X2, Z2, X3, Z3⟩).x2 p ∧ Nm (Cv.lstep U ⟨X2, Z2, X3, Z3⟩).z2 q ∧ Nm (Cv.lstep U ⟨X2, Z2, X3, Z3⟩).x3 r ∧ Nm (Cv.lstep U ⟨X2, Z2, X3, Z3⟩).z3 s) ∧ Below w.heap.size w w' := by
  obtain ⟨W1, hW1⟩ : ∃ W, ((((w.alloc (.cells (lmA (a ++ b)) 37 (0, 0))).alloc (.cells (lmA (c ++ d)) 37 (0, 0))).alloc (.cells (lmA u) 34 (0, 0))).alloc (.cells (lmA (zL ++ zL)) 37 (0, 0))).alloc (.cells (lmA (zL ++ zL)) 37 (0, 0)) = W := ⟨_, rfl⟩
  obtain ⟨rL, rH, rU, r6, r7, B1⟩ := cu_alloc5 w _ _ _ _ _ hW1
  have HW : Hid _ := hW1
  clear hW1
  go_enter Tryd.func19, Tryd.ntmps19
  go_wp2_with fail
  refine (congrArg (Code.wp _ _ _ _) HW.out).mpr ?_
  clear HW
  apply cu_merge (fun r q n m W => Ls (X2 + Z2) r ∧ Ls (X2 - Z2) q ∧ W1.heap.size ≤ n ∧ W1.heap.size ≤ m ∧ n ≠ m ∧ W.heap[n]? = some (.cells (lmA r) 34 (0, 0)) ∧ W.heap[m]? = some (.cells (lmA q) 34 (0, 0)) ∧ Below W1.heap.size W1 W)
  · intro K2 HK2
    have hS0 : (fun w' => Below W1.heap.size W1 w') W1.drew := (Below.refl _ _).drew
    refine wp_region_held (S := fun w' => Below W1.heap.size W1 w') (by kernel_rfl) ?_
    refine cu_take (i := 0) 19 (v := (.pointer (some ⟨w.heap.size, 0, none⟩))) rfl rfl (by kernel_rfl) (by kernel_rfl) (by kernel_rfl) (fun _ _ _ h => h) (Or.inl ⟨by rfl, fun _ _ => by kernel_rfl⟩) hS0 ?_
    simp only [Act.put, List.setIfInBounds_toArray, List.set_cons_zero, List.set_cons_succ]
    refine cu_take (i := 1) 20 (v := .agg (lmA a)) rfl rfl (by kernel_rfl) (by kernel_rfl) (by kernel_rfl) (fun _ _ _ h => h) (cu_yield (by rfl) 34 (.tmp 19) rfl w.heap.size 0 rfl a _ (fun _ hw => range_low (row_kept hw rL)) Tryd.underlying34 rfl (cuInfo ha.len)) hS0 ?_
    simp only [Act.put, List.setIfInBounds_toArray, List.set_cons_zero, List.set_cons_succ]
    refine cu_take (i := 2) 21 (v := (.pointer (some ⟨w.heap.size, 16, none⟩))) rfl rfl (by kernel_rfl) (by kernel_rfl) (by kernel_rfl) (fun _ _ _ h => h) (Or.inl ⟨by rfl, fun _ _ => by kernel_rfl⟩) hS0 ?_
    simp only [Act.put, List.setIfInBounds_toArray, List.set_cons_zero, List.set_cons_succ]
    refine cu_take (i := 3) 22 (v := .agg (lmA b)) rfl rfl (by kernel_rfl) (by kernel_rfl) (by kernel_rfl) (fun _ _ _ h => h) (cu_yield (by rfl) 34 (.tmp 21) rfl w.heap.size 16 rfl b _ (fun _ hw => range_high (row_kept hw rL) ha.len) Tryd.underlying34 rfl (cuInfo hb.len)) hS0 ?_
    simp only [Act.put, List.setIfInBounds_toArray, List.set_cons_zero, List.set_cons_succ]
    refine cu_take (i := 5) 24 (v := (.pointer (some ⟨w.heap.size, 0, none⟩))) rfl rfl (by kernel_rfl) (by kernel_rfl) (by kernel_rfl) (fun _ _ _ h => h) (Or.inl ⟨by rfl, fun _ _ => by kernel_rfl⟩) hS0 ?_
    simp only [Act.put, List.setIfInBounds_toArray, List.set_cons_zero, List.set_cons_succ]
    refine cu_take (i := 6) 25 (v := .agg (lmA a)) rfl rfl (by kernel_rfl) (by kernel_rfl) (by kernel_rfl) (fun _ _ _ h => h) (cu_yield (by rfl) 34 (.tmp 24) rfl w.heap.size 0 rfl a _ (fun _ hw => range_low (row_kept hw rL)) Tryd.underlying34 rfl (cuInfo ha.len)) hS0 ?_
    simp only [Act.put, List.setIfInBounds_toArray, List.set_cons_zero, List.set_cons_succ]
    refine cu_take (i := 7) 26 (v := (.pointer (some ⟨w.heap.size, 16, none⟩))) rfl rfl (by kernel_rfl) (by kernel_rfl) (by kernel_rfl) (fun _ _ _ h => h) (Or.inl ⟨by rfl, fun _ _ => by kernel_rfl⟩) hS0 ?_
    simp only [Act.put, List.setIfInBounds_toArray, List.set_cons_zero, List.set_cons_succ]
    refine cu_take (i := 8) 27 (v := .agg (lmA b)) rfl rfl (by kernel_rfl) (by kernel_rfl) (by kernel_rfl) (fun _ _ _ h => h) (cu_yield (by rfl) 34 (.tmp 26) rfl w.heap.size 16 rfl b _ (fun _ hw => range_high (row_kept hw rL) ha.len) Tryd.underlying34 rfl (cuInfo hb.len)) hS0 ?_
    simp only [Act.put, List.setIfInBounds_toArray, List.set_cons_zero, List.set_cons_succ]
    refine region_pair0 W1 34 (Ls (X2 + Z2)) (Ls (X2 - Z2)) 25 23 #[.agg (lmA a), .agg (lmA b)] #[.agg (lmA a), .agg (lmA b)] 4 9 10 11 12 13 23 28 8 9 (fun c1 c2 x y => #[true, true, true, true, c1, true, true, true, true, c2, x, y, false, false]) (by kernel_rfl) (by kernel_rfl)
      (by intro c1 c2 x y h; cases c1 <;> cases c2 <;> cases x <;> cases y <;> first | kernel_rfl | (exact absurd (h rfl) (by decide)))
      (by kernel_rfl) (by kernel_rfl) (fun _ _ => by kernel_rfl) (fun _ _ => by kernel_rfl) (fun _ _ _ => by kernel_rfl) (fun _ _ _ => by kernel_rfl)
      (fun _ _ _ => ⟨⟨_, rfl, by kernel_rfl, rfl, by kernel_rfl⟩⟩) (fun _ _ _ => by kernel_rfl) (fun _ _ _ _ => ⟨⟨_, rfl, by kernel_rfl, rfl, by kernel_rfl⟩⟩) (fun _ _ _ _ => by kernel_rfl)
      (fun _ _ _ _ => ⟨⟨_, rfl, by kernel_rfl, rfl, by kernel_rfl⟩⟩) (fun _ _ _ _ => by kernel_rfl) (fun _ _ _ _ => ⟨⟨_, rfl, by kernel_rfl, rfl, by kernel_rfl⟩⟩) (fun _ _ _ _ => by kernel_rfl)
      (fun _ _ _ _ => ⟨⟨_, _, _, rfl, by kernel_rfl, rfl, rfl, by kernel_rfl, by kernel_rfl⟩⟩) (fun _ _ _ _ => ⟨⟨_, _, _, rfl, by kernel_rfl, rfl, rfl, by kernel_rfl, by kernel_rfl⟩⟩)
      (fun _ h => cuInfo h) (fun _ h => h.lim.1) (fun _ h => h.lim.1) (fun w _ => cu_add ha hb w) (fun w _ => cu_sub ha hb w) hS0 (fun r q n m W h1 h2 h3 h4 h5 h6 h7 h8 => HK2.out r q n m W ⟨h1, h2, h3, h4, h5, h6, h7, h8⟩)
  rintro A B gA gB W2 ⟨hA, hB, nA, nB, _, rA, rB, B2⟩
  simp only [pA, Option.elim_some, Act.put, List.setIfInBounds_toArray, List.set_cons_zero, List.set_cons_succ]
  replace rH := row_kept B2 rH
  replace rU := row_kept B2 rU
  replace r6 := row_kept B2 r6
  replace r7 := row_kept B2 r7
  have D2 : Below w.heap.size w W2 := B1.trans (B2.mono B1.size)
  clear rL B1 B2
  go_wp2_with fail
  apply cu_merge (fun r q n m W => Ls (X3 + Z3) r ∧ Ls (X3 - Z3) q ∧ W2.heap.size ≤ n ∧ W2.heap.size ≤ m ∧ n ≠ m ∧ W.heap[n]? = some (.cells (lmA r) 34 (0, 0)) ∧ W.heap[m]? = some (.cells (lmA q) 34 (0, 0)) ∧ Below W2.heap.size W2 W)
  · intro K2 HK2
    have hS0 : (fun w' => Below W2.heap.size W2 w') W2.drew := (Below.refl _ _).drew
    refine wp_region_held (S := fun w' => Below W2.heap.size W2 w') (by kernel_rfl) ?_
    refine cu_take (i := 0) 29 (v := (.pointer (some ⟨(w.heap.size + 1), 0, none⟩))) rfl rfl (by kernel_rfl) (by kernel_rfl) (by kernel_rfl) (fun _ _ _ h => h) (Or.inl ⟨by rfl, fun _ _ => by kernel_rfl⟩) hS0 ?_
    simp only [Act.put, List.setIfInBounds_toArray, List.set_cons_zero, List.set_cons_succ]
    refine cu_take (i := 1) 30 (v := .agg (lmA c)) rfl rfl (by kernel_rfl) (by kernel_rfl) (by kernel_rfl) (fun _ _ _ h => h) (cu_yield (by rfl) 34 (.tmp 29) rfl (w.heap.size + 1) 0 rfl c _ (fun _ hw => range_low (row_kept hw rH)) Tryd.underlying34 rfl (cuInfo hc.len)) hS0 ?_
    simp only [Act.put, List.setIfInBounds_toArray, List.set_cons_zero, List.set_cons_succ]
    refine cu_take (i := 2) 31 (v := (.pointer (some ⟨(w.heap.size + 1), 16, none⟩))) rfl rfl (by kernel_rfl) (by kernel_rfl) (by kernel_rfl) (fun _ _ _ h => h) (Or.inl ⟨by rfl, fun _ _ => by kernel_rfl⟩) hS0 ?_
    simp only [Act.put, List.setIfInBounds_toArray, List.set_cons_zero, List.set_cons_succ]
    refine cu_take (i := 3) 32 (v := .agg (lmA d)) rfl rfl (by kernel_rfl) (by kernel_rfl) (by kernel_rfl) (fun _ _ _ h => h) (cu_yield (by rfl) 34 (.tmp 31) rfl (w.heap.size + 1) 16 rfl d _ (fun _ hw => range_high (row_kept hw rH) hc.len) Tryd.underlying34 rfl (cuInfo hd.len)) hS0 ?_
    simp only [Act.put, List.setIfInBounds_toArray, List.set_cons_zero, List.set_cons_succ]
    refine cu_take (i := 5) 34 (v := (.pointer (some ⟨(w.heap.size + 1), 0, none⟩))) rfl rfl (by kernel_rfl) (by kernel_rfl) (by kernel_rfl) (fun _ _ _ h => h) (Or.inl ⟨by rfl, fun _ _ => by kernel_rfl⟩) hS0 ?_
    simp only [Act.put, List.setIfInBounds_toArray, List.set_cons_zero, List.set_cons_succ]
    refine cu_take (i := 6) 35 (v := .agg (lmA c)) rfl rfl (by kernel_rfl) (by kernel_rfl) (by kernel_rfl) (fun _ _ _ h => h) (cu_yield (by rfl) 34 (.tmp 34) rfl (w.heap.size + 1) 0 rfl c _ (fun _ hw => range_low (row_kept hw rH)) Tryd.underlying34 rfl (cuInfo hc.len)) hS0 ?_
    simp only [Act.put, List.setIfInBounds_toArray, List.set_cons_zero, List.set_cons_succ]
    refine cu_take (i := 7) 36 (v := (.pointer (some ⟨(w.heap.size + 1), 16, none⟩))) rfl rfl (by kernel_rfl) (by kernel_rfl) (by kernel_rfl) (fun _ _ _ h => h) (Or.inl ⟨by rfl, fun _ _ => by kernel_rfl⟩) hS0 ?_
    simp only [Act.put, List.setIfInBounds_toArray, List.set_cons_zero, List.set_cons_succ]
    refine cu_take (i := 8) 37 (v := .agg (lmA d)) rfl rfl (by kernel_rfl) (by kernel_rfl) (by kernel_rfl) (fun _ _ _ h => h) (cu_yield (by rfl) 34 (.tmp 36) rfl (w.heap.size + 1) 16 rfl d _ (fun _ hw => range_high (row_kept hw rH) hc.len) Tryd.underlying34 rfl (cuInfo hd.len)) hS0 ?_
    simp only [Act.put, List.setIfInBounds_toArray, List.set_cons_zero, List.set_cons_succ]
    refine region_pair0 W2 34 (Ls (X3 + Z3)) (Ls (X3 - Z3)) 25 23 #[.agg (lmA c), .agg (lmA d)] #[.agg (lmA c), .agg (lmA d)] 4 9 10 11 12 13 33 38 10 11 (fun c1 c2 x y => #[true, true, true, true, c1, true, true, true, true, c2, x, y, false, false]) (by kernel_rfl) (by kernel_rfl)
      (by intro c1 c2 x y h; cases c1 <;> cases c2 <;> cases x <;> cases y <;> first | kernel_rfl | (exact absurd (h rfl) (by decide)))
      (by kernel_rfl) (by kernel_rfl) (fun _ _ => by kernel_rfl) (fun _ _ => by kernel_rfl) (fun _ _ _ => by kernel_rfl) (fun _ _ _ => by kernel_rfl)
      (fun _ _ _ => ⟨⟨_, rfl, by kernel_rfl, rfl, by kernel_rfl⟩⟩) (fun _ _ _ => by kernel_rfl) (fun _ _ _ _ => ⟨⟨_, rfl, by kernel_rfl, rfl, by kernel_rfl⟩⟩) (fun _ _ _ _ => by kernel_rfl)
      (fun _ _ _ _ => ⟨⟨_, rfl, by kernel_rfl, rfl, by kernel_rfl⟩⟩) (fun _ _ _ _ => by kernel_rfl) (fun _ _ _ _ => ⟨⟨_, rfl, by kernel_rfl, rfl, by kernel_rfl⟩⟩) (fun _ _ _ _ => by kernel_rfl)
      (fun _ _ _ _ => ⟨⟨_, _, _, rfl, by kernel_rfl, rfl, rfl, by kernel_rfl, by kernel_rfl⟩⟩) (fun _ _ _ _ => ⟨⟨_, _, _, rfl, by kernel_rfl, rfl, rfl, by kernel_rfl, by kernel_rfl⟩⟩)
      (fun _ h => cuInfo h) (fun _ h => h.lim.1) (fun _ h => h.lim.1) (fun w _ => cu_add hc hd w) (fun w _ => cu_sub hc hd w) hS0 (fun r q n m W h1 h2 h3 h4 h5 h6 h7 h8 => HK2.out r q n m W ⟨h1, h2, h3, h4, h5, h6, h7, h8⟩)
  rintro C D gC gD W3 ⟨hC, hD, nC, nD, _, rC, rD, B3⟩
  simp only [pA, Option.elim_some, Act.put, List.setIfInBounds_toArray, List.set_cons_zero, List.set_cons_succ]
  replace rU := row_kept B3 rU
  replace r6 := row_kept B3 r6
  replace r7 := row_kept B3 r7
  replace rA := row_kept B3 rA
  replace rB := row_kept B3 rB
  have D3 : Below w.heap.size w W3 := D2.trans (B3.mono D2.size)
  clear rH B3 D2
  go_wp2_with fail
  have z3 := (Array.getElem?_eq_some_iff.1 r7).1
  apply cu_merge (fun r q n m W => Nm ((X2 + Z2) * (X2 + Z2)) r ∧ Nm ((X2 - Z2) * (X2 - Z2)) q ∧ W3.heap.size ≤ n ∧ W3.heap.size ≤ m ∧ n ≠ m ∧ W.heap[n]? = some (.cells (lmA r) 34 (0, 0)) ∧ W.heap[m]? = some (.cells (lmA q) 34 (0, 0)) ∧ Below W3.heap.size W3 W)
  · intro K2 HK2
    have hS0 : (fun w' => Below W3.heap.size W3 w') W3.drew := (Below.refl _ _).drew
    refine wp_region_held (S := fun w' => Below W3.heap.size W3 w') (by kernel_rfl) ?_
    refine cu_take (i := 0) 39 (v := .agg (lmA A)) rfl rfl (by kernel_rfl) (by kernel_rfl) (by kernel_rfl) (fun _ _ _ h => h) (cu_yield (by rfl) 34 (.tmp 8) rfl gA 0 rfl A _ (fun _ hw => range_row (row_kept hw rA)) Tryd.underlying34 rfl (cuInfo hA.lim.1)) hS0 ?_
    simp only [Act.put, List.setIfInBounds_toArray, List.set_cons_zero, List.set_cons_succ]
    refine cu_take (i := 1) 40 (v := .agg (lmA A)) rfl rfl (by kernel_rfl) (by kernel_rfl) (by kernel_rfl) (fun _ _ _ h => h) (cu_yield (by rfl) 34 (.tmp 8) rfl gA 0 rfl A _ (fun _ hw => range_row (row_kept hw rA)) Tryd.underlying34 rfl (cuInfo hA.lim.1)) hS0 ?_
    simp only [Act.put, List.setIfInBounds_toArray, List.set_cons_zero, List.set_cons_succ]
    refine cu_take (i := 3) 42 (v := .agg (lmA B)) rfl rfl (by kernel_rfl) (by kernel_rfl) (by kernel_rfl) (fun _ _ _ h => h) (cu_yield (by rfl) 34 (.tmp 9) rfl gB 0 rfl B _ (fun _ hw => range_row (row_kept hw rB)) Tryd.underlying34 rfl (cuInfo hB.lim.1)) hS0 ?_
    simp only [Act.put, List.setIfInBounds_toArray, List.set_cons_zero, List.set_cons_succ]
    refine cu_take (i := 4) 43 (v := .agg (lmA B)) rfl rfl (by kernel_rfl) (by kernel_rfl) (by kernel_rfl) (fun _ _ _ h => h) (cu_yield (by rfl) 34 (.tmp 9) rfl gB 0 rfl B _ (fun _ hw => range_row (row_kept hw rB)) Tryd.underlying34 rfl (cuInfo hB.lim.1)) hS0 ?_
    simp only [Act.put, List.setIfInBounds_toArray, List.set_cons_zero, List.set_cons_succ]
    refine region_pair0 W3 34 (Nm ((X2 + Z2) * (X2 + Z2))) (Nm ((X2 - Z2) * (X2 - Z2))) 21 21 #[.agg (lmA A), .agg (lmA A)] #[.agg (lmA B), .agg (lmA B)] 2 5 6 7 8 9 41 44 12 13 (fun c1 c2 x y => #[true, true, c1, true, true, c2, x, y, false, false]) (by kernel_rfl) (by kernel_rfl)
      (by intro c1 c2 x y h; cases c1 <;> cases c2 <;> cases x <;> cases y <;> first | kernel_rfl | (exact absurd (h rfl) (by decide)))
      (by kernel_rfl) (by kernel_rfl) (fun _ _ => by kernel_rfl) (fun _ _ => by kernel_rfl) (fun _ _ _ => by kernel_rfl) (fun _ _ _ => by kernel_rfl)
      (fun _ _ _ => ⟨⟨_, rfl, by kernel_rfl, rfl, by kernel_rfl⟩⟩) (fun _ _ _ => by kernel_rfl) (fun _ _ _ _ => ⟨⟨_, rfl, by kernel_rfl, rfl, by kernel_rfl⟩⟩) (fun _ _ _ _ => by kernel_rfl)
      (fun _ _ _ _ => ⟨⟨_, rfl, by kernel_rfl, rfl, by kernel_rfl⟩⟩) (fun _ _ _ _ => by kernel_rfl) (fun _ _ _ _ => ⟨⟨_, rfl, by kernel_rfl, rfl, by kernel_rfl⟩⟩) (fun _ _ _ _ => by kernel_rfl)
      (fun _ _ _ _ => ⟨⟨_, _, _, rfl, by kernel_rfl, rfl, rfl, by kernel_rfl, by kernel_rfl⟩⟩) (fun _ _ _ _ => ⟨⟨_, _, _, rfl, by kernel_rfl, rfl, rfl, by kernel_rfl, by kernel_rfl⟩⟩)
      (fun _ h => cuInfo h) (fun _ h => h.len) (fun _ h => h.len) (fun w _ => cu_mul hA hA w) (fun w _ => cu_mul hB hB w) hS0 (fun r q n m W h1 h2 h3 h4 h5 h6 h7 h8 => HK2.out r q n m W ⟨h1, h2, h3, h4, h5, h6, h7, h8⟩)
  rintro P Q gP gQ W4 ⟨hP, hQ, nP, nQ, _, rP, rQ, B4⟩
  simp only [pA, Option.elim_some, Act.put, List.setIfInBounds_toArray, List.set_cons_zero, List.set_cons_succ]
  replace rU := row_kept B4 rU
  replace r6 := row_kept B4 r6
  replace r7 := row_kept B4 r7
  replace rA := row_kept B4 rA
  replace rB := row_kept B4 rB
  replace rC := row_kept B4 rC
  replace rD := row_kept B4 rD
  have D4 : Below w.heap.size w W4 := D3.trans (B4.mono D3.size)
  clear B4 D3
  go_wp2_with fail
  apply cu_merge (fun r q n m W => Nm ((X3 - Z3) * (X2 + Z2)) r ∧ Nm ((X3 + Z3) * (X2 - Z2)) q ∧ W4.heap.size ≤ n ∧ W4.heap.size ≤ m ∧ n ≠ m ∧ W.heap[n]? = some (.cells (lmA r) 34 (0, 0)) ∧ W.heap[m]? = some (.cells (lmA q) 34 (0, 0)) ∧ Below W4.heap.size W4 W)
  · intro K2 HK2
    have hS0 : (fun w' => Below W4.heap.size W4 w') W4.drew := (Below.refl _ _).drew
    refine wp_region_held (S := fun w' => Below W4.heap.size W4 w') (by kernel_rfl) ?_
    refine cu_take (i := 0) 45 (v := .agg (lmA D)) rfl rfl (by kernel_rfl) (by kernel_rfl) (by kernel_rfl) (fun _ _ _ h => h) (cu_yield (by rfl) 34 (.tmp 11) rfl gD 0 rfl D _ (fun _ hw => range_row (row_kept hw rD)) Tryd.underlying34 rfl (cuInfo hD.lim.1)) hS0 ?_
    simp only [Act.put, List.setIfInBounds_toArray, List.set_cons_zero, List.set_cons_succ]
    refine cu_take (i := 1) 46 (v := .agg (lmA A)) rfl rfl (by kernel_rfl) (by kernel_rfl) (by kernel_rfl) (fun _ _ _ h => h) (cu_yield (by rfl) 34 (.tmp 8) rfl gA 0 rfl A _ (fun _ hw => range_row (row_kept hw rA)) Tryd.underlying34 rfl (cuInfo hA.lim.1)) hS0 ?_
    simp only [Act.put, List.setIfInBounds_toArray, List.set_cons_zero, List.set_cons_succ]
    refine cu_take (i := 3) 48 (v := .agg (lmA C)) rfl rfl (by kernel_rfl) (by kernel_rfl) (by kernel_rfl) (fun _ _ _ h => h) (cu_yield (by rfl) 34 (.tmp 10) rfl gC 0 rfl C _ (fun _ hw => range_row (row_kept hw rC)) Tryd.underlying34 rfl (cuInfo hC.lim.1)) hS0 ?_
    simp only [Act.put, List.setIfInBounds_toArray, List.set_cons_zero, List.set_cons_succ]
    refine cu_take (i := 4) 49 (v := .agg (lmA B)) rfl rfl (by kernel_rfl) (by kernel_rfl) (by kernel_rfl) (fun _ _ _ h => h) (cu_yield (by rfl) 34 (.tmp 9) rfl gB 0 rfl B _ (fun _ hw => range_row (row_kept hw rB)) Tryd.underlying34 rfl (cuInfo hB.lim.1)) hS0 ?_
    simp only [Act.put, List.setIfInBounds_toArray, List.set_cons_zero, List.set_cons_succ]
    refine region_pair0 W4 34 (Nm ((X3 - Z3) * (X2 + Z2))) (Nm ((X3 + Z3) * (X2 - Z2))) 21 21 #[.agg (lmA D), .agg (lmA A)] #[.agg (lmA C), .agg (lmA B)] 2 5 6 7 8 9 47 50 14 15 (fun c1 c2 x y => #[true, true, c1, true, true, c2, x, y, false, false]) (by kernel_rfl) (by kernel_rfl)
      (by intro c1 c2 x y h; cases c1 <;> cases c2 <;> cases x <;> cases y <;> first | kernel_rfl | (exact absurd (h rfl) (by decide)))
      (by kernel_rfl) (by kernel_rfl) (fun _ _ => by kernel_rfl) (fun _ _ => by kernel_rfl) (fun _ _ _ => by kernel_rfl) (fun _ _ _ => by kernel_rfl)
      (fun _ _ _ => ⟨⟨_, rfl, by kernel_rfl, rfl, by kernel_rfl⟩⟩) (fun _ _ _ => by kernel_rfl) (fun _ _ _ _ => ⟨⟨_, rfl, by kernel_rfl, rfl, by kernel_rfl⟩⟩) (fun _ _ _ _ => by kernel_rfl)
      (fun _ _ _ _ => ⟨⟨_, rfl, by kernel_rfl, rfl, by kernel_rfl⟩⟩) (fun _ _ _ _ => by kernel_rfl) (fun _ _ _ _ => ⟨⟨_, rfl, by kernel_rfl, rfl, by kernel_rfl⟩⟩) (fun _ _ _ _ => by kernel_rfl)
      (fun _ _ _ _ => ⟨⟨_, _, _, rfl, by kernel_rfl, rfl, rfl, by kernel_rfl, by kernel_rfl⟩⟩) (fun _ _ _ _ => ⟨⟨_, _, _, rfl, by kernel_rfl, rfl, rfl, by kernel_rfl, by kernel_rfl⟩⟩)
      (fun _ h => cuInfo h) (fun _ h => h.len) (fun _ h => h.len) (fun w _ => cu_mul hD hA w) (fun w _ => cu_mul hC hB w) hS0 (fun r q n m W h1 h2 h3 h4 h5 h6 h7 h8 => HK2.out r q n m W ⟨h1, h2, h3, h4, h5, h6, h7, h8⟩)
  rintro M N gM gN W5 ⟨hM, hN, nM, nN, _, rM, rN, B5⟩
  simp only [pA, Option.elim_some, Act.put, List.setIfInBounds_toArray, List.set_cons_zero, List.set_cons_succ]
  replace rU := row_kept B5 rU
  replace r6 := row_kept B5 r6
  replace r7 := row_kept B5 r7
  replace rP := row_kept B5 rP
  replace rQ := row_kept B5 rQ
  have D5 : Below w.heap.size w W5 := D4.trans (B5.mono D4.size)
  clear B5 D4 rA rB rC rD
  have szP := cuInfo hP.len
  have szQ := cuInfo hQ.len
  go_wp2_with ((with_reducible (refine cu_look ?_)); first
    | (refine wpList_load_row rfl 34 (.tmp 12) rfl gP rfl 34 _ (0, 0) _ rP Tryd.underlying34 rfl szP ?_)
    | (refine wpList_load_row rfl 34 (.tmp 13) rfl gQ rfl 34 _ (0, 0) _ rQ Tryd.underlying34 rfl szQ ?_))
  refine (cu_sub hP hQ W5).mono ?_
  rintro e w6 ⟨E, rfl, hE, B6⟩
  replace rU := row_kept B6 rU
  replace r6 := row_kept B6 r6
  replace r7 := row_kept B6 r7
  replace rP := row_kept B6 rP
  replace rQ := row_kept B6 rQ
  replace rM := row_kept B6 rM
  replace rN := row_kept B6 rN
  have D6 : Below w.heap.size w w6 := D5.trans (B6.mono D5.size)
  have z6 := (Array.getElem?_eq_some_iff.1 r7).1
  obtain ⟨W6, hW6⟩ : ∃ W, (w6.alloc (.cells (lmA zL) 34 (0, 0))).setRow w6.heap.size (lmA E) = W := ⟨_, rfl⟩
  obtain ⟨rE, C6, _⟩ := cu_new hW6
  replace rU := row_kept C6 rU
  replace r6 := row_kept C6 r6
  replace r7 := row_kept C6 r7
  replace rP := row_kept C6 rP
  replace rQ := row_kept C6 rQ
  replace rM := row_kept C6 rM
  replace rN := row_kept C6 rN
  have E6 : Below w.heap.size w W6 := D6.trans (C6.mono D6.size)
  have szE := cuInfo hE.lim.1
  have HW6 : Hid _ := hW6
  clear hW6 B6 C6 D6 D5
  go_wp2_with ((with_reducible (refine cu_look ?_)); (refine wpList_store_row rfl 34 _ _ rfl w6.heap.size _ rfl rfl 34 (lmA zL) (heap_alloc_new _ _) szE (by rw [lmA_size, lmA_size, hE.lim.1]; rfl) (lmA_one E) ?_; refine (congrArg (wpList _ _ _ _ _) HW6.out).mpr ?_))
  clear HW6
  have z7 := (Array.getElem?_eq_some_iff.1 r7).1
  apply cu_merge (fun r q n m W => Ls ((X3 - Z3) * (X2 + Z2) + (X3 + Z3) * (X2 - Z2)) r ∧ Ls ((X3 - Z3) * (X2 + Z2) - (X3 + Z3) * (X2 - Z2)) q ∧ W6.heap.size ≤ n ∧ W6.heap.size ≤ m ∧ n ≠ m ∧ W.heap[n]? = some (.cells (lmA r) 34 (0, 0)) ∧ W.heap[m]? = some (.cells (lmA q) 34 (0, 0)) ∧ Below W6.heap.size W6 W)
  · intro K2 HK2
    have hS0 : (fun w' => Below W6.heap.size W6 w') W6.drew := (Below.refl _ _).drew
    refine wp_region_held (S := fun w' => Below W6.heap.size W6 w') (by kernel_rfl) ?_
    refine cu_take (i := 0) 54 (v := .agg (lmA M)) rfl rfl (by kernel_rfl) (by kernel_rfl) (by kernel_rfl) (fun _ _ _ h => h) (cu_yield (by rfl) 34 (.tmp 14) rfl gM 0 rfl M _ (fun _ hw => range_row (row_kept hw rM)) Tryd.underlying34 rfl (cuInfo hM.len)) hS0 ?_
    simp only [Act.put, List.setIfInBounds_toArray, List.set_cons_zero, List.set_cons_succ]
    refine cu_take (i := 1) 55 (v := .agg (lmA N)) rfl rfl (by kernel_rfl) (by kernel_rfl) (by kernel_rfl) (fun _ _ _ h => h) (cu_yield (by rfl) 34 (.tmp 15) rfl gN 0 rfl N _ (fun _ hw => range_row (row_kept hw rN)) Tryd.underlying34 rfl (cuInfo hN.len)) hS0 ?_
    simp only [Act.put, List.setIfInBounds_toArray, List.set_cons_zero, List.set_cons_succ]
    refine cu_take (i := 3) 57 (v := .agg (lmA M)) rfl rfl (by kernel_rfl) (by kernel_rfl) (by kernel_rfl) (fun _ _ _ h => h) (cu_yield (by rfl) 34 (.tmp 14) rfl gM 0 rfl M _ (fun _ hw => range_row (row_kept hw rM)) Tryd.underlying34 rfl (cuInfo hM.len)) hS0 ?_
    simp only [Act.put, List.setIfInBounds_toArray, List.set_cons_zero, List.set_cons_succ]
    refine cu_take (i := 4) 58 (v := .agg (lmA N)) rfl rfl (by kernel_rfl) (by kernel_rfl) (by kernel_rfl) (fun _ _ _ h => h) (cu_yield (by rfl) 34 (.tmp 15) rfl gN 0 rfl N _ (fun _ hw => range_row (row_kept hw rN)) Tryd.underlying34 rfl (cuInfo hN.len)) hS0 ?_
    simp only [Act.put, List.setIfInBounds_toArray, List.set_cons_zero, List.set_cons_succ]
    refine region_pair0 W6 34 (Ls ((X3 - Z3) * (X2 + Z2) + (X3 + Z3) * (X2 - Z2))) (Ls ((X3 - Z3) * (X2 + Z2) - (X3 + Z3) * (X2 - Z2))) 25 23 #[.agg (lmA M), .agg (lmA N)] #[.agg (lmA M), .agg (lmA N)] 2 5 6 7 8 9 56 59 17 18 (fun c1 c2 x y => #[true, true, c1, true, true, c2, x, y, false, false]) (by kernel_rfl) (by kernel_rfl)
      (by intro c1 c2 x y h; cases c1 <;> cases c2 <;> cases x <;> cases y <;> first | kernel_rfl | (exact absurd (h rfl) (by decide)))
      (by kernel_rfl) (by kernel_rfl) (fun _ _ => by kernel_rfl) (fun _ _ => by kernel_rfl) (fun _ _ _ => by kernel_rfl) (fun _ _ _ => by kernel_rfl)
      (fun _ _ _ => ⟨⟨_, rfl, by kernel_rfl, rfl, by kernel_rfl⟩⟩) (fun _ _ _ => by kernel_rfl) (fun _ _ _ _ => ⟨⟨_, rfl, by kernel_rfl, rfl, by kernel_rfl⟩⟩) (fun _ _ _ _ => by kernel_rfl)
      (fun _ _ _ _ => ⟨⟨_, rfl, by kernel_rfl, rfl, by kernel_rfl⟩⟩) (fun _ _ _ _ => by kernel_rfl) (fun _ _ _ _ => ⟨⟨_, rfl, by kernel_rfl, rfl, by kernel_rfl⟩⟩) (fun _ _ _ _ => by kernel_rfl)
      (fun _ _ _ _ => ⟨⟨_, _, _, rfl, by kernel_rfl, rfl, rfl, by kernel_rfl, by kernel_rfl⟩⟩) (fun _ _ _ _ => ⟨⟨_, _, _, rfl, by kernel_rfl, rfl, rfl, by kernel_rfl, by kernel_rfl⟩⟩)
      (fun _ h => cuInfo h) (fun _ h => h.lim.1) (fun _ h => h.lim.1) (fun w _ => cu_add hM hN w) (fun w _ => cu_sub hM hN w) hS0 (fun r q n m W h1 h2 h3 h4 h5 h6 h7 h8 => HK2.out r q n m W ⟨h1, h2, h3, h4, h5, h6, h7, h8⟩)
  rintro G J gG gJ W7 ⟨hG, hJ, nG, nJ, _, rG, rJ, B7⟩
  simp only [pA, Option.elim_some, Act.put, List.setIfInBounds_toArray, List.set_cons_zero, List.set_cons_succ]
  replace rU := row_kept B7 rU
  replace r6 := row_kept B7 r6
  replace r7 := row_kept B7 r7
  replace rP := row_kept B7 rP
  replace rQ := row_kept B7 rQ
  replace rE := row_kept B7 rE
  have D7 : Below w.heap.size w W7 := E6.trans (B7.mono E6.size)
  clear B7 E6 rM rN
  go_wp2_with fail
  obtain ⟨_, tF, frF, rF⟩ := ht.below D7
  obtain ⟨_, tF0, frF0, rF0⟩ := ht
  have zF := (Array.getElem?_eq_some_iff.1 rF0).1
  have z8 := (Array.getElem?_eq_some_iff.1 r7).1
  apply cu_merge4 (fun p _ _ q W => Nm ((X2 + Z2) * (X2 + Z2) * ((X2 - Z2) * (X2 - Z2))) p ∧ Nm (((X2 + Z2) * (X2 + Z2) - (X2 - Z2) * (X2 - Z2)) * ((X2 + Z2) * (X2 + Z2) + ((X2 + Z2) * (X2 + Z2) - (X2 - Z2) * (X2 - Z2)) * 121665)) q ∧ W.heap[w.heap.size + 1 + 1 + 1]? = some (.cells (lmA (p ++ q)) 37 (0, 0)) ∧ SB w.heap.size (w.heap.size + 1 + 1 + 1) W7 W)
  · intro K2 HK2
    have hSof : ∀ w', Below W7.heap.size W7 w' → SB w.heap.size (w.heap.size + 1 + 1 + 1) W7 w' := fun w' h => SB.of (by omega) h
    have hD : Below W7.heap.size W7 W7.drew := (Below.refl _ _).drew
    have hS0 : (fun w' => SB w.heap.size (w.heap.size + 1 + 1 + 1) W7 w') W7.drew := hSof _ hD
    refine wp_region_held (S := fun w' => SB w.heap.size (w.heap.size + 1 + 1 + 1) W7 w') (by kernel_rfl) ?_
    refine cu_take (i := 0) 60 (v := .agg (lmA P)) rfl rfl (by kernel_rfl) (by kernel_rfl) (by kernel_rfl) (fun _ _ _ h => h) (cu_yield (by rfl) 34 (.tmp 12) rfl gP 0 rfl P _ (fun _ hw => range_row (hw.row (by omega) rP)) Tryd.underlying34 rfl (cuInfo hP.len)) hS0 ?_
    simp only [Act.put, List.setIfInBounds_toArray, List.set_cons_zero, List.set_cons_succ]
    refine cu_take (i := 1) 61 (v := .agg (lmA Q)) rfl rfl (by kernel_rfl) (by kernel_rfl) (by kernel_rfl) (fun _ _ _ h => h) (cu_yield (by rfl) 34 (.tmp 13) rfl gQ 0 rfl Q _ (fun _ hw => range_row (hw.row (by omega) rQ)) Tryd.underlying34 rfl (cuInfo hQ.len)) hS0 ?_
    simp only [Act.put, List.setIfInBounds_toArray, List.set_cons_zero, List.set_cons_succ]
    refine cu_take (i := 3) 63 (v := .agg (lmA E)) rfl rfl (by kernel_rfl) (by kernel_rfl) (by kernel_rfl) (fun _ _ _ h => h) (cu_yield (by rfl) 34 (.tmp 16) rfl w6.heap.size 0 rfl E _ (fun _ hw => range_row (hw.row (by omega) rE)) Tryd.underlying34 rfl (cuInfo hE.lim.1)) hS0 ?_
    simp only [Act.put, List.setIfInBounds_toArray, List.set_cons_zero, List.set_cons_succ]
    refine cu_take (i := 4) 64 (v := .agg (lmA P)) rfl rfl (by kernel_rfl) (by kernel_rfl) (by kernel_rfl) (fun _ _ _ h => h) (cu_yield (by rfl) 34 (.tmp 12) rfl gP 0 rfl P _ (fun _ hw => range_row (hw.row (by omega) rP)) Tryd.underlying34 rfl (cuInfo hP.len)) hS0 ?_
    simp only [Act.put, List.setIfInBounds_toArray, List.set_cons_zero, List.set_cons_succ]
    refine cu_take (i := 5) 65 (v := .agg (lmA E)) rfl rfl (by kernel_rfl) (by kernel_rfl) (by kernel_rfl) (fun _ _ _ h => h) (cu_yield (by rfl) 34 (.tmp 16) rfl w6.heap.size 0 rfl E _ (fun _ hw => range_row (hw.row (by omega) rE)) Tryd.underlying34 rfl (cuInfo hE.lim.1)) hS0 ?_
    simp only [Act.put, List.setIfInBounds_toArray, List.set_cons_zero, List.set_cons_succ]
    refine cu_take (i := 6) 66 (v := .agg (lmA facL)) rfl rfl (by kernel_rfl) (by kernel_rfl) (by kernel_rfl) (fun _ _ _ h => h) (cu_yield (by rfl) 34 (.global 1) rfl 1 0 rfl facL _ (fun _ hw => range_row (hw.row (by omega) rF)) Tryd.underlying34 rfl (cuInfo (show facL.length = 16 from rfl))) hS0 ?_
    simp only [Act.put, List.setIfInBounds_toArray, List.set_cons_zero, List.set_cons_succ]
    refine cuH_call (i := 2) 62 W7 21 #[.agg (lmA P), .agg (lmA Q)] (Nm ((X2 + Z2) * (X2 + Z2) * ((X2 - Z2) * (X2 - Z2)))) (by kernel_rfl) rfl (by kernel_rfl) rfl (by kernel_rfl) hSof hD (cu_mul hP.ls hQ.ls _) ?_
    intro p1 v0 hp1 c0
    simp only [Act.put, List.setIfInBounds_toArray, List.set_cons_zero, List.set_cons_succ]
    refine cuH_call (i := 7) 67 W7 21 #[.agg (lmA E), .agg (lmA facL)] (Nm (((X2 + Z2) * (X2 + Z2) - (X2 - Z2) * (X2 - Z2)) * 121665)) (by kernel_rfl) rfl (by kernel_rfl) rfl (by kernel_rfl) hSof c0 (cu_mul hE fac_nm.ls _) ?_
    intro p2 v1 hp2 c1
    simp only [Act.put, List.setIfInBounds_toArray, List.set_cons_zero, List.set_cons_succ]
    refine cuH_call (i := 8) 68 W7 25 #[.agg (lmA P), .agg (lmA p2)] (Ls ((X2 + Z2) * (X2 + Z2) + ((X2 + Z2) * (X2 + Z2) - (X2 - Z2) * (X2 - Z2)) * 121665)) (by kernel_rfl) rfl (by kernel_rfl) rfl (by kernel_rfl) hSof c1 (cu_add hP hp2 _) ?_
    intro p3 v2 hp3 c2
    simp only [Act.put, List.setIfInBounds_toArray, List.set_cons_zero, List.set_cons_succ]
    refine cuH_call (i := 9) 69 W7 21 #[.agg (lmA E), .agg (lmA p3)] (Nm (((X2 + Z2) * (X2 + Z2) - (X2 - Z2) * (X2 - Z2)) * ((X2 + Z2) * (X2 + Z2) + ((X2 + Z2) * (X2 + Z2) - (X2 - Z2) * (X2 - Z2)) * 121665))) (by kernel_rfl) rfl (by kernel_rfl) rfl (by kernel_rfl) hSof c2 (cu_mul hE hp3 _) ?_
    intro p4 v3 hp4 c3
    simp only [Act.put, List.setIfInBounds_toArray, List.set_cons_zero, List.set_cons_succ]
    refine cuH_one (i := 10) (by kernel_rfl) (cuOp_build rfl (by kernel_rfl) 37 #[(0, .tmp 62), (1, .tmp 69)] rfl (lmA (p1 ++ p4)) ((congrArg (Tryd.prog.built 37) (by kernel_rfl)).trans (cu_built p1 p4 hp1.len hp4.len)) ⟨hSof _ c3, ?_⟩)
    refine Eq.mp (congrArg (fun z => wpAnyH _ _ _ _ _ _ _ z _) (show Act.put _ (some 70) _ = _ from rfl)) ?_
    simp only [Act.put, List.setIfInBounds_toArray, List.set_cons_zero, List.set_cons_succ]
    refine cuH_store (i := 11) (by kernel_rfl) rfl (by kernel_rfl) rfl 37 (.tmp 6) (.tmp 70) rfl (w.heap.size + 1 + 1 + 1) (lmA (p1 ++ p4)) (by kernel_rfl) (by kernel_rfl) 37 (lmA (zL ++ zL)) (row_kept c3 r6) (cuInfoP hp1.len hp4.len) (by rw [lmA_size, lmA_size, List.length_append, List.length_append, hp1.len, hp4.len]; rfl) (lmA_one _) ((hSof _ c3).store (by omega) _) ?_
    exact wpAnyH_done (by kernel_rfl) (HK2.out p1 p2 p3 p4 _ ⟨hp1, hp4, setRow_heap _ _ _ _ 37 _ (row_kept c3 r6), (hSof _ c3).store (by omega) _⟩) _
  rintro p p2 p3 q W8 ⟨hp, hq, rp, S8⟩
  have D8 : Below w.heap.size w W8 := D7.trans S8.b
  replace rU := S8.row (by omega) rU
  replace r7 := S8.row (by omega) r7
  replace rG := S8.row (by omega) rG
  replace rJ := S8.row (by omega) rJ
  clear S8 rP rQ rE rF r6 D7
  go_wp2_with fail
  have z9 := (Array.getElem?_eq_some_iff.1 r7).1
  apply cu_merge3 (fun p _ q W => Nm (((X3 - Z3) * (X2 + Z2) + (X3 + Z3) * (X2 - Z2)) * ((X3 - Z3) * (X2 + Z2) + (X3 + Z3) * (X2 - Z2))) p ∧ Nm (U * (((X3 - Z3) * (X2 + Z2) - (X3 + Z3) * (X2 - Z2)) * ((X3 - Z3) * (X2 + Z2) - (X3 + Z3) * (X2 - Z2)))) q ∧ W.heap[w.heap.size + 1 + 1 + 1 + 1]? = some (.cells (lmA (p ++ q)) 37 (0, 0)) ∧ SB w.heap.size (w.heap.size + 1 + 1 + 1 + 1) W8 W)
  · intro K2 HK2
    have hSof : ∀ w', Below W8.heap.size W8 w' → SB w.heap.size (w.heap.size + 1 + 1 + 1 + 1) W8 w' := fun w' h => SB.of (by omega) h
    have hD : Below W8.heap.size W8 W8.drew := (Below.refl _ _).drew
    have hS0 : (fun w' => SB w.heap.size (w.heap.size + 1 + 1 + 1 + 1) W8 w') W8.drew := hSof _ hD
    refine wp_region_held (S := fun w' => SB w.heap.size (w.heap.size + 1 + 1 + 1 + 1) W8 w') (by kernel_rfl) ?_
    refine cu_take (i := 0) 71 (v := .agg (lmA G)) rfl rfl (by kernel_rfl) (by kernel_rfl) (by kernel_rfl) (fun _ _ _ h => h) (cu_yield (by rfl) 34 (.tmp 17) rfl gG 0 rfl G _ (fun _ hw => range_row (hw.row (by omega) rG)) Tryd.underlying34 rfl (cuInfo hG.lim.1)) hS0 ?_
    simp only [Act.put, List.setIfInBounds_toArray, List.set_cons_zero, List.set_cons_succ]
    refine cu_take (i := 1) 72 (v := .agg (lmA G)) rfl rfl (by kernel_rfl) (by kernel_rfl) (by kernel_rfl) (fun _ _ _ h => h) (cu_yield (by rfl) 34 (.tmp 17) rfl gG 0 rfl G _ (fun _ hw => range_row (hw.row (by omega) rG)) Tryd.underlying34 rfl (cuInfo hG.lim.1)) hS0 ?_
    simp only [Act.put, List.setIfInBounds_toArray, List.set_cons_zero, List.set_cons_succ]
    refine cu_take (i := 3) 74 (v := .agg (lmA u)) rfl rfl (by kernel_rfl) (by kernel_rfl) (by kernel_rfl) (fun _ _ _ h => h) (cu_yield (by rfl) 34 (.tmp 5) rfl (w.heap.size + 1 + 1) 0 rfl u _ (fun _ hw => range_row (hw.row (by omega) rU)) Tryd.underlying34 rfl (cuInfo hu.len)) hS0 ?_
    simp only [Act.put, List.setIfInBounds_toArray, List.set_cons_zero, List.set_cons_succ]
    refine cu_take (i := 4) 75 (v := .agg (lmA J)) rfl rfl (by kernel_rfl) (by kernel_rfl) (by kernel_rfl) (fun _ _ _ h => h) (cu_yield (by rfl) 34 (.tmp 18) rfl gJ 0 rfl J _ (fun _ hw => range_row (hw.row (by omega) rJ)) Tryd.underlying34 rfl (cuInfo hJ.lim.1)) hS0 ?_
    simp only [Act.put, List.setIfInBounds_toArray, List.set_cons_zero, List.set_cons_succ]
    refine cu_take (i := 5) 76 (v := .agg (lmA J)) rfl rfl (by kernel_rfl) (by kernel_rfl) (by kernel_rfl) (fun _ _ _ h => h) (cu_yield (by rfl) 34 (.tmp 18) rfl gJ 0 rfl J _ (fun _ hw => range_row (hw.row (by omega) rJ)) Tryd.underlying34 rfl (cuInfo hJ.lim.1)) hS0 ?_
    simp only [Act.put, List.setIfInBounds_toArray, List.set_cons_zero, List.set_cons_succ]
    refine cuH_call (i := 2) 73 W8 21 #[.agg (lmA G), .agg (lmA G)] (Nm (((X3 - Z3) * (X2 + Z2) + (X3 + Z3) * (X2 - Z2)) * ((X3 - Z3) * (X2 + Z2) + (X3 + Z3) * (X2 - Z2)))) (by kernel_rfl) rfl (by kernel_rfl) rfl (by kernel_rfl) hSof hD (cu_mul hG hG _) ?_
    intro p1 v0 hp1 c0
    simp only [Act.put, List.setIfInBounds_toArray, List.set_cons_zero, List.set_cons_succ]
    refine cuH_call (i := 6) 77 W8 21 #[.agg (lmA J), .agg (lmA J)] (Nm (((X3 - Z3) * (X2 + Z2) - (X3 + Z3) * (X2 - Z2)) * ((X3 - Z3) * (X2 + Z2) - (X3 + Z3) * (X2 - Z2)))) (by kernel_rfl) rfl (by kernel_rfl) rfl (by kernel_rfl) hSof c0 (cu_mul hJ hJ _) ?_
    intro p2 v1 hp2 c1
    simp only [Act.put, List.setIfInBounds_toArray, List.set_cons_zero, List.set_cons_succ]
    refine cuH_call (i := 7) 78 W8 21 #[.agg (lmA u), .agg (lmA p2)] (Nm (U * (((X3 - Z3) * (X2 + Z2) - (X3 + Z3) * (X2 - Z2)) * ((X3 - Z3) * (X2 + Z2) - (X3 + Z3) * (X2 - Z2))))) (by kernel_rfl) rfl (by kernel_rfl) rfl (by kernel_rfl) hSof c1 (cu_mul hu.ls hp2.ls _) ?_
    intro p3 v2 hp3 c2
    simp only [Act.put, List.setIfInBounds_toArray, List.set_cons_zero, List.set_cons_succ]
    refine cuH_one (i := 8) (by kernel_rfl) (cuOp_build rfl (by kernel_rfl) 37 #[(0, .tmp 73), (1, .tmp 78)] rfl (lmA (p1 ++ p3)) ((congrArg (Tryd.prog.built 37) (by kernel_rfl)).trans (cu_built p1 p3 hp1.len hp3.len)) ⟨hSof _ c2, ?_⟩)
    refine Eq.mp (congrArg (fun z => wpAnyH _ _ _ _ _ _ _ z _) (show Act.put _ (some 79) _ = _ from rfl)) ?_
    simp only [Act.put, List.setIfInBounds_toArray, List.set_cons_zero, List.set_cons_succ]
    refine cuH_store (i := 9) (by kernel_rfl) rfl (by kernel_rfl) rfl 37 (.tmp 7) (.tmp 79) rfl (w.heap.size + 1 + 1 + 1 + 1) (lmA (p1 ++ p3)) (by kernel_rfl) (by kernel_rfl) 37 (lmA (zL ++ zL)) (row_kept c2 r7) (cuInfoP hp1.len hp3.len) (by rw [lmA_size, lmA_size, List.length_append, List.length_append, hp1.len, hp3.len]; rfl) (lmA_one _) ((hSof _ c2).store (by omega) _) ?_
    exact wpAnyH_done (by kernel_rfl) (HK2.out p1 p2 p3 _ ⟨hp1, hp3, setRow_heap _ _ _ _ 37 _ (row_kept c2 r7), (hSof _ c2).store (by omega) _⟩) _
  rintro r r2 s W9 ⟨hr, hs, rr, S9⟩
  have D9 : Below w.heap.size w W9 := D8.trans S9.b
  replace rp := S9.row (by omega) rp
  clear S9 rG rJ rU r7 D8
  go_wp2_with fail
  apply cu_merge0 (fun w' => w'.heap[w.heap.size + 1 + 1 + 1]? = some (.cells (lmA (p ++ q)) 37 (0, 0)) ∧ w'.heap[w.heap.size + 1 + 1 + 1 + 1]? = some (.cells (lmA (r ++ s)) 37 (0, 0)) ∧ Below w.heap.size w w')
  · intro K2 HK2
    have hS0 : (fun w' => w'.heap[w.heap.size + 1 + 1 + 1]? = some (.cells (lmA (p ++ q)) 37 (0, 0)) ∧ w'.heap[w.heap.size + 1 + 1 + 1 + 1]? = some (.cells (lmA (r ++ s)) 37 (0, 0)) ∧ Below w.heap.size w w') W9.drew := ⟨rp, rr, D9.drew⟩
    refine wp_region_held (S := fun w' => w'.heap[w.heap.size + 1 + 1 + 1]? = some (.cells (lmA (p ++ q)) 37 (0, 0)) ∧ w'.heap[w.heap.size + 1 + 1 + 1 + 1]? = some (.cells (lmA (r ++ s)) 37 (0, 0)) ∧ Below w.heap.size w w') (by kernel_rfl) ?_
    refine cu_take (i := 0) 80 (v := .agg (lmA (p ++ q))) rfl rfl (by kernel_rfl) (by kernel_rfl) (by kernel_rfl) (fun _ _ _ h => h) (cu_yield (by rfl) 37 (.tmp 6) rfl (w.heap.size + 1 + 1 + 1) 0 rfl (p ++ q) _ (fun _ hw => range_row hw.1) Tryd.underlying37 rfl (cuInfoP hp.len hq.len)) hS0 ?_
    simp only [Act.put, List.setIfInBounds_toArray, List.set_cons_zero, List.set_cons_succ]
    refine cu_take (i := 1) 81 (v := .agg (lmA (r ++ s))) rfl rfl (by kernel_rfl) (by kernel_rfl) (by kernel_rfl) (fun _ _ _ h => h) (cu_yield (by rfl) 37 (.tmp 7) rfl (w.heap.size + 1 + 1 + 1 + 1) 0 rfl (r ++ s) _ (fun _ hw => range_row hw.2.1) Tryd.underlying37 rfl (cuInfoP hr.len hs.len)) hS0 ?_
    simp only [Act.put, List.setIfInBounds_toArray, List.set_cons_zero, List.set_cons_succ]
    have q1 : (W9.drew.setRow (w.heap.size + 1 + 1 + 1) (lmA (p ++ q))).heap[w.heap.size + 1 + 1 + 1]? = some (.cells (lmA (p ++ q)) 37 (0, 0)) := setRow_heap _ _ _ _ 37 _ hS0.1
    have q2 : (W9.drew.setRow (w.heap.size + 1 + 1 + 1) (lmA (p ++ q))).heap[w.heap.size + 1 + 1 + 1 + 1]? = some (.cells (lmA (r ++ s)) 37 (0, 0)) := (setRow_other _ _ _ _ (by omega)).trans hS0.2.1
    have q3 := cu_below_row hS0.2.2 (show w.heap.size ≤ w.heap.size + 1 + 1 + 1 by omega) (lmA (p ++ q))
    refine cuH_store (i := 2) (by kernel_rfl) rfl (by kernel_rfl) rfl 37 (.tmp 6) (.tmp 80) rfl (w.heap.size + 1 + 1 + 1) (lmA (p ++ q)) (by kernel_rfl) (by kernel_rfl) 37 (lmA (p ++ q)) hS0.1 (cuInfoP hp.len hq.len) rfl (lmA_one _) ⟨q1, q2, q3⟩ ?_
    have t1 : ((W9.drew.setRow (w.heap.size + 1 + 1 + 1) (lmA (p ++ q))).setRow (w.heap.size + 1 + 1 + 1 + 1) (lmA (r ++ s))).heap[w.heap.size + 1 + 1 + 1]? = some (.cells (lmA (p ++ q)) 37 (0, 0)) := (setRow_other _ _ _ _ (by omega)).trans q1
    have t2 : ((W9.drew.setRow (w.heap.size + 1 + 1 + 1) (lmA (p ++ q))).setRow (w.heap.size + 1 + 1 + 1 + 1) (lmA (r ++ s))).heap[w.heap.size + 1 + 1 + 1 + 1]? = some (.cells (lmA (r ++ s)) 37 (0, 0)) := setRow_heap _ _ _ _ 37 _ q2
    have t3 := cu_below_row q3 (show w.heap.size ≤ w.heap.size + 1 + 1 + 1 + 1 by omega) (lmA (r ++ s))
    refine cuH_store (i := 3) (by kernel_rfl) rfl (by kernel_rfl) rfl 37 (.tmp 7) (.tmp 81) rfl (w.heap.size + 1 + 1 + 1 + 1) (lmA (r ++ s)) (by kernel_rfl) (by kernel_rfl) 37 (lmA (r ++ s)) q2 (cuInfoP hr.len hs.len) rfl (lmA_one _) ⟨t1, t2, t3⟩ ?_
    exact wpAnyH_done (by kernel_rfl) (HK2.out _ ⟨t1, t2, t3⟩) _
  rintro W ⟨t1, t2, t3⟩
  clear rp rr D9
  have hfin : Nm (Cv.lstep U ⟨X2, Z2, X3, Z3⟩).x2 p ∧ Nm (Cv.lstep U ⟨X2, Z2, X3, Z3⟩).z2 q ∧ Nm (Cv.lstep U ⟨X2, Z2, X3, Z3⟩).x3 r ∧ Nm (Cv.lstep U ⟨X2, Z2, X3, Z3⟩).z3 s := by
    refine ⟨hp, ⟨hq.wd, hq.len, ?_⟩, hr, hs⟩
    rw [hq.val]
    show _ = ((X2 + Z2) * (X2 + Z2) - (X2 - Z2) * (X2 - Z2)) * ((X2 + Z2) * (X2 + Z2) + 121665 * ((X2 + Z2) * (X2 + Z2) - (X2 - Z2) * (X2 - Z2)))
    grobner
  have HF : Hid _ := hfin
  clear hfin
  go_wp2_with fail
  refine bodyPost_ret (v := .tuple #[.agg (lmA (p ++ q)), .agg (lmA (r ++ s))]) (cu_results2 rfl _ _ (w.heap.size + 1 + 1 + 1) (w.heap.size + 1 + 1 + 1 + 1) 37 _ _ (0, 0) (0, 0) _ rfl rfl t1 t2 Tryd.underlying37 rfl (cuInfoP hp.len hq.len) (cuInfoP hr.len hs.len)) rfl ⟨p, q, r, s, rfl, HF.out, t3⟩
end Go.Proofs.YtdhoegkphhekfabDoor
