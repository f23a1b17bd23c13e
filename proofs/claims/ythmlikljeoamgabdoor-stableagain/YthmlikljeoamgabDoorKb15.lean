/-
  The walks of the program's own look for room, and of a record behind a tape.
-/
import Derived.Test.YthmlikljeoamgabDoorKb6
import Derived.Test.YthmlikljeoamgabDoorKb14
import Derived.Test.YthmlikljeoamgabDoorKb11
namespace Go.Proofs.YthmlikljeoamgabDoor
open Go.RowKit
set_option linter.unusedVariables false

section
variable {P : Program} {md : Region.Mode} {ops : Array Oper} {Q : Exit → Act → World → Prop} {S : World → Prop}
theorem opAppendB {i d : Nat} {o : Oper} {a : Act} {w : World} {K : Act → World → Prop} (ho : ops[i]? = some o) (hw : Region.wanted o (yielded ops a.tmps) = true) (hd : o.dst = some d) (s x : Operand) (t : TypeId)
    (hop : o.op = .call { callee := .builtin .append, args := #[s, x], argTypes := #[t, t] })
    (base e : Nat) (ht : P.underlying t = some (.slice e)) (hinfo : (P.info? e).map (fun i => (i.zero, i.size, i.bytes)) = some (some (.int .u8 0), 1, 1))
    (v u : Value) (hs : a.eval s = v) (hx : a.eval x = u) (l m : List Int) (hown : w.ownsRow base e 1 v l.length (l.map (Value.int .u8))) (hu : Sl w u m)
    (hlen : l.length + m.length ≤ 140737488355328) (hbase : base ≤ w.heap.size)
    (h : ∀ v' w', w'.ownsRow base e 1 v' (l ++ m).length ((l ++ m).map (Value.int .u8)) → w.grownBy w' v.ownBlock → K (a.put (some d) v') w') : wpOp P ops Q i K a w :=
  wpOp_step ho fun K' hK => by
    rw [if_pos hw]
    obtain ⟨v', w', hrun, r1, r2⟩ := run_append_sl (P := P) w base t o.type e ht hinfo v l hown u m hu hlen hbase
    unfold Oper.wp execOp
    simp only [hop, resolve, invoke, builtin, Sem.run_bind, Sem.run_pure, Result.andThen_ok, List.map_toArray, List.map_cons, List.map_nil, hs, hx, hrun]
    exact hK _ _ (by rw [hd]; exact h v' w' r1 r2)
end
theorem t_mergeAA {P : Program} {id : Nat} {ops : Array Oper} {K : Act → World → Prop} {Q : Exit → Act → World → Prop} {a : Act} {w : World} (R : Option Addr → Nat → Option Addr → Nat → World → Prop) {A : Option Addr → Nat → Option Addr → Nat → Act}
    (hreg : ∀ K' : Act → World → Prop, Hid (∀ g c g2 c2 W2, R g c g2 c2 W2 → K' (A g c g2 c2) W2) → (Code.region id ops true).wp P (Exit.then K' Q) a w) (hrest : ∀ g c g2 c2 W2, R g c g2 c2 W2 → K (A g c g2 c2) W2) : (Code.region id ops true).wp P (Exit.then K Q) a w := hreg K hrest
set_option maxHeartbeats 2000000 in
set_option maxRecDepth 100000 in
theorem checkRoom_any (x : Value) (d : List Int) (s : Int) (k : Nat) (hk : k ≤ 1000) (w : World) (h : Sl w x d) :
    Calls Tryd.prog 29 #[.agg (tpA x s), .int .i64 (k : Int)] w fun e w' => e = .returned (.int .i64 (rooT d s k)) ∧ Below w.heap.size w w' := by
  have hlen := h.len
  obtain ⟨ax, cp, rfl⟩ := h.shapeT
  obtain ⟨M, hM⟩ : ∃ M, d.length = M := ⟨_, rfl⟩
  have HM : Hid (d.length = M) := hM
  rw [hM] at h hlen ⊢
  clear hM
  simp only [tpA]
  obtain ⟨W0, hW0⟩ : ∃ W0, w.alloc (.cells #[.slice ax M cp, .int .i64 s] 25) = W0 := ⟨_, rfl⟩
  have r0_p : W0.heap[w.heap.size]? = some (.cells #[.slice ax M cp, .int .i64 s] 25) := by rw [← hW0]; exact t_alloc1_0 _ _
  have bb : Below w.heap.size w W0 := by rw [← hW0]; exact t_allocB1 _ _
  have l0_p : w.heap.size < W0.heap.size := (Array.getElem?_eq_some_iff.1 r0_p).1
  have sl0_x := h.below bb
  go_enter Tryd.func29, Tryd.ntmps29
  go_wp2_with ((with_reducible (refine tpLook ?_)); (refine wpList_load_row rfl 25 _ rfl w.heap.size rfl 25 _ (0, 0) _ r0_p Tryd.underlying25 rfl tpSize ?_))
  clear hW0
  refine (mayT_any (.slice ax M cp) d s W0 sl0_x).mono ?_
  rintro e w1 ⟨rfl, bw1⟩
  have d1 := bb.trans (bw1.mono bb.size)
  have rw1_p := (bw1.block _ l0_p).trans r0_p
  have lw1_p := Nat.lt_of_lt_of_le l0_p bw1.size
  have sl1_x := sl0_x.below bw1
  clear l0_p r0_p sl0_x
  clear bw1
  by_cases h1 : TapB d s
  · rw [decide_eq_true h1]
    have hM1 : M ≤ 100000 := by rw [← HM.out]; exact h1.1
    have d9 := d1
    by_cases h2 : 100000 < M + k
    · have h2i : (100000 : Int) < (M : Int) + (k : Int) := by omega
      have HE : Hid (rooT d s k = 8) := by unfold Hid rooT; rw [if_neg (fun g => g h1), HM.out, if_pos h2]
      clear h1 h2
      have cc1_p0 : w1.cell? ⟨w.heap.size, 0, none⟩ = some (.slice ax M cp) := cell_of_row _ _ 0 _ _ _ rw1_p
      have cc1_p1 : w1.cell? ⟨w.heap.size, 1, none⟩ = some (.int .i64 s) := cell_of_row _ _ 1 _ _ _ rw1_p
      go_wp2
      go_ret
      exact ⟨by rw [HE.out]; rfl, d9⟩
    · have h2i : ¬ (100000 : Int) < (M : Int) + (k : Int) := by omega
      have HE : Hid (rooT d s k = 0) := by unfold Hid rooT; rw [if_neg (fun g => g h1), HM.out, if_neg h2]
      clear h1 h2
      have cc1_p0 : w1.cell? ⟨w.heap.size, 0, none⟩ = some (.slice ax M cp) := cell_of_row _ _ 0 _ _ _ rw1_p
      have cc1_p1 : w1.cell? ⟨w.heap.size, 1, none⟩ = some (.int .i64 s) := cell_of_row _ _ 1 _ _ _ rw1_p
      go_wp2
      go_ret
      exact ⟨by rw [HE.out]; rfl, d9⟩
  · rw [decide_eq_false h1]
    have HE : Hid (rooT d s k = 5) := if_pos h1
    clear h1
    have d9 := d1
    go_wp2
    go_ret
    exact ⟨by rw [HE.out]; rfl, d9⟩
set_option maxHeartbeats 2000000 in
set_option maxRecDepth 100000 in
theorem withRecord_any (x : Value) (d : List Int) (s : Int) (v : Value) (b : List Int) (w : World) (h : Sl w x d) (hv : Sl w v b) (hb : b.length ≤ 255) (hd : d.length ≤ 100000) (ht : TabAt w) :
    Calls Tryd.prog 30 #[.agg (tpA x s), v] w fun e w' => ∃ y, e = .returned (.tuple #[.agg (tpA y s), .int .i64 0]) ∧ w'.ownsRow w.heap.size 5 1 y (d ++ recoL b).length ((d ++ recoL b).map (Value.int .u8)) ∧ Below w.heap.size w w' := by
  have HD : Hid (∀ x ∈ d, 0 ≤ x ∧ x < 256) := h.byte
  have HRB : Hid (∀ x ∈ recoL b, 0 ≤ x ∧ x < 256) := recoL_byte hv.byte hb
  have hrl : (recoL b).length ≤ 260 := by rw [recoL_length]; omega
  have hlen := h.len
  obtain ⟨ax, cp, rfl⟩ := h.shapeT
  obtain ⟨M, hM⟩ : ∃ M, d.length = M := ⟨_, rfl⟩
  have HM : Hid (d.length = M) := hM
  rw [hM] at h hlen ⊢
  clear hM
  simp only [tpA]
  rw [HM.out] at hd
  obtain ⟨i0, hi0, hz0, hz1, hz2⟩ := info_parts info5
  obtain ⟨W0, hW0⟩ : ∃ W0, (w.alloc (.cells #[.slice ax M cp, .int .i64 s] 25)).alloc (.cells #[.slice none 0 0, .int .i64 0] 25) = W0 := ⟨_, rfl⟩
  have r0_p : W0.heap[w.heap.size]? = some (.cells #[.slice ax M cp, .int .i64 s] 25) := by rw [← hW0]; exact t_alloc2_0 _ _ _
  have r0_r : W0.heap[w.heap.size + 1]? = some (.cells #[.slice none 0 0, .int .i64 0] 25) := by rw [← hW0]; exact t_alloc2_1 _ _ _
  have bb : Below w.heap.size w W0 := by rw [← hW0]; exact t_allocB2 _ _ _
  have l0_p : w.heap.size < W0.heap.size := (Array.getElem?_eq_some_iff.1 r0_p).1
  have l0_r : (w.heap.size + 1) < W0.heap.size := (Array.getElem?_eq_some_iff.1 r0_r).1
  have t0_0 := ht.below bb
  have sl0_x := h.below bb
  have sl0_v := hv.below bb
  go_enter Tryd.func30, Tryd.ntmps30
  go_wp2_with fail
  clear hW0
  refine (recordOf_any v b W0 sl0_v hb t0_0).mono ?_
  rintro e w1 ⟨y, rfl, oy, bw1⟩
  obtain ⟨R, hR⟩ : ∃ R, recoL b = R := ⟨_, rfl⟩
  rw [hR] at oy hrl HRB
  have HR : Hid (recoL b = R) := hR
  clear hR
  have sy := Sl.ofOwns oy (by omega) HRB.out
  obtain ⟨N, hN⟩ : ∃ N, R.length = N := ⟨_, rfl⟩
  have HN : Hid (R.length = N) := hN
  rw [hN] at oy hrl
  clear hN
  obtain ⟨ay, cy, rfl⟩ := tOwns_shape oy
  have d1 := bb.trans (bw1.mono bb.size)
  have tt1_0 := t0_0.below bw1
  have rw1_p := (bw1.block _ l0_p).trans r0_p
  have lw1_p := Nat.lt_of_lt_of_le l0_p bw1.size
  have rw1_r := (bw1.block _ l0_r).trans r0_r
  have lw1_r := Nat.lt_of_lt_of_le l0_r bw1.size
  have sl1_x := sl0_x.below bw1
  have sl1_v := sl0_v.below bw1
  clear t0_0 l0_p r0_p l0_r r0_r sl0_x sl0_v
  clear bw1
  clear oy
  have sy1 := sy
  have hRB : w.heap.size + 1 < w1.heap.size := lw1_r
  have cc1_p0 : w1.cell? ⟨w.heap.size, 0, none⟩ = some (.slice ax M cp) := cell_of_row _ _ 0 _ _ _ rw1_p
  go_wp2_with (at_make; refine wpList_make_own _ rfl _ _ 23 rfl w1.heap.size 5 i0 (.int .u8 0) 1 Tryd.underlying23 hi0 hz0 hz1 _ _ _ (M + N) rfl rfl (by omega) (by rw [hz2]; omega) (by unfold maxLen; omega) (Nat.le_refl _) ?_)
  intro w2 o2 g2
  have b2 : Below w1.heap.size w1 w2 := (Below.refl _ _).grown g2 (Nat.le_refl _) (fun k hk => by cases hk)
  clear g2 cc1_p0
  have z12 := b2.size
  have b12 := b2
  have d2 := d1.trans (b2.mono d1.size)
  have tt2_0 := tt1_0.below b2
  have rw2_p := (b2.block _ lw1_p).trans rw1_p
  have lw2_p := Nat.lt_of_lt_of_le lw1_p b2.size
  have rw2_r := (b2.block _ lw1_r).trans rw1_r
  have lw2_r := Nat.lt_of_lt_of_le lw1_r b2.size
  have sl2_x := sl1_x.below b2
  have sl2_v := sl1_v.below b2
  clear tt1_0 lw1_p rw1_p lw1_r rw1_r sl1_x sl1_v
  clear b2
  have HO2 : Hid (w2.ownsRow w1.heap.size 5 1 (.slice (some ⟨w1.heap.size, 0, none⟩) 0 (M + N)) ([] : List Int).length (([] : List Int).map (Value.int .u8))) := o2
  have hlt2 := o2.lt
  have hll : ([] : List Int).length + d.length ≤ 140737488355328 := by rw [HM.out]; simp; omega
  clear o2
  have cc2_p0 : w2.cell? ⟨w.heap.size, 0, none⟩ = some (.slice ax M cp) := cell_of_row _ _ 0 _ _ _ rw2_p
  go_wp2_with (at_builtin; refine wpList_append_sl _ rfl _ _ 23 rfl w1.heap.size 5 Tryd.underlying23 info5 _ _ rfl rfl [] d HO2.out sl2_x hll (by omega) ?_)
  intro v3 w3 o3 g3
  have b3 : Below w1.heap.size w2 w3 := (Below.refl _ _).grown g3 (by omega) (fun k hk => (hlt2 k hk).1)
  have HO3 : Hid (w3.ownsRow w1.heap.size 5 1 v3 d.length (d.map (Value.int .u8))) := by unfold Hid; simpa using o3
  have z23 := b3.size
  have sy3 : Sl w3 (.slice ay N cy) R := sy1.below (show Below w1.heap.size w1 w3 from b12.trans b3)
  have rp3 := (b3.block w.heap.size (by omega)).trans rw2_p
  have rr3 := (b3.block (w.heap.size + 1) hRB).trans rw2_r
  have d3 := d2.trans (b3.mono (show w.heap.size ≤ w1.heap.size by omega))
  have lr3 : w.heap.size + 1 < w3.heap.size := by omega
  have z13 : w1.heap.size ≤ w3.heap.size := by omega
  obtain ⟨a3, c3, h3⟩ := tOwns_shape HO3.out
  rw [HM.out] at h3
  subst h3
  have c1 : w3.cell? ⟨w.heap.size, 1, none⟩ = some (.int .i64 s) := cell_of_row _ _ 1 _ _ _ rp3
  obtain ⟨T, hT⟩ : ∃ T, M + N = T := ⟨_, rfl⟩
  have HT : Hid (M + N = T) := hT
  clear hT
  clear o3 g3 b3 hlt2 HO2 sl2_x cc2_p0
  go_wp2_with fail
  apply t_mergeA (fun g c Wz => Wz.heap[w.heap.size + 1]? = some (.cells #[.slice g T c, .int .i64 s] 25) ∧ Wz.ownsRow w1.heap.size 5 1 (.slice g T c) T ((d ++ R).map (Value.int .u8)) ∧ Below (w.heap.size + 1) w3 Wz)
  · intro K2 HK2
    have ed0 : Below w3.heap.size w3 w3.drew := (Below.refl _ _).drew
    refine wp_region_held (S := fun w' => Below (w.heap.size + 1) w3 w') (by kernel_rfl) ?_
    have hS0 : (fun w' => Below (w.heap.size + 1) w3 w') w3.drew := ed0.mono (Nat.le_of_lt lr3)
    refine heldTake (i := 0) 29 (v := .slice a3 M c3) rfl rfl (by kernel_rfl) (by kernel_rfl) (by kernel_rfl) (fun _ _ _ h => h) (Or.inl ⟨by rfl, fun _ _ => by kernel_rfl⟩) hS0 ?_
    simp only [Act.put, List.setIfInBounds_toArray, List.set_cons_zero, List.set_cons_succ]
    refine heldTake (i := 1) 30 (v := .slice ay N cy) rfl rfl (by kernel_rfl) (by kernel_rfl) (by kernel_rfl) (fun _ _ _ h => h) (Or.inl ⟨by rfl, fun _ _ => by kernel_rfl⟩) hS0 ?_
    simp only [Act.put, List.setIfInBounds_toArray, List.set_cons_zero, List.set_cons_succ]
    refine heldTake (i := 3) 32 (v := .pointer (some ⟨w.heap.size, 1, none⟩)) rfl rfl (by kernel_rfl) (by kernel_rfl) (by kernel_rfl) (fun _ _ _ h => h) (Or.inl ⟨by rfl, fun _ _ => by kernel_rfl⟩) hS0 ?_
    simp only [Act.put, List.setIfInBounds_toArray, List.set_cons_zero, List.set_cons_succ]
    refine heldTake (i := 4) 33 (v := .int .i64 s) rfl rfl (by kernel_rfl) (by kernel_rfl) (by kernel_rfl) (fun _ _ _ h => h) (yieldCell (by rfl) 3 (.tmp 32) rfl _ Tryd.underlying3 rfl ⟨w.heap.size, 1, none⟩ rfl (.int .i64 s) (fun w' hw' => (hw'.cell (p := ⟨w.heap.size, 1, none⟩) (show w.heap.size < w.heap.size + 1 by omega)).trans c1)) hS0 ?_
    simp only [Act.put, List.setIfInBounds_toArray, List.set_cons_zero, List.set_cons_succ]
    have od : w3.drew.ownsRow w1.heap.size 5 1 (.slice a3 M c3) d.length (d.map (Value.int .u8)) := tOwns_keep HO3.out (fun k hk => ed0.block k (HO3.out.lt k hk).2)
    have rd := (ed0.block (w.heap.size + 1) lr3).trans rr3
    have hlt := od.lt
    have hlen2 : d.length + R.length ≤ 140737488355328 := by rw [HM.out, HN.out]; omega
    refine heldOne (i := 2) (by kernel_rfl) (opAppendB (i := 2) (d := 31) rfl (by kernel_rfl) rfl (.tmp 29) (.tmp 30) 23 rfl w1.heap.size 5 Tryd.underlying23 info5 (.slice a3 M c3) (.slice ay N cy) (by kernel_rfl) (by kernel_rfl) d R od (sy3.below ed0) hlen2 (Nat.le_trans z13 ed0.size) ?_)
    intro v4 w4 o4 g4
    have b4 : Below (w.heap.size + 1) w3 w4 := (ed0.mono (Nat.le_of_lt lr3)).grown g4 (Nat.le_trans (Nat.le_of_lt lr3) ed0.size) (fun k hk => Nat.le_trans (Nat.le_of_lt hRB) (hlt k hk).1)
    have r4 : w4.heap[w.heap.size + 1]? = some (.cells #[.slice none 0 0, .int .i64 0] 25) := (g4.block (w.heap.size + 1) (Nat.lt_of_lt_of_le lr3 ed0.size) (fun e => tOwns_ne od rd (by decide) _ e.symm rfl)).trans rd
    have hTT : (d ++ R).length = T := by rw [List.length_append, HM.out, HN.out]; exact HT.out
    rw [hTT] at o4
    obtain ⟨a4, c4, h4⟩ := tOwns_shape o4
    subst h4
    refine ⟨b4, ?_⟩
    simp only [Act.put, List.setIfInBounds_toArray, List.set_cons_zero, List.set_cons_succ]
    refine heldTake (i := 5) 34 (v := .agg #[.slice a4 T c4, .int .i64 s]) rfl rfl (by kernel_rfl) (by kernel_rfl) (by kernel_rfl) (fun _ _ _ h => h) (Or.inl ⟨by rfl, fun _ _ => by kernel_rfl⟩) b4 ?_
    simp only [Act.put, List.setIfInBounds_toArray, List.set_cons_zero, List.set_cons_succ]
    have hone := tp_one a4 T c4 s
    have e7 : Below (w.heap.size + 1) w3 (w4.setRow (w.heap.size + 1) #[.slice a4 T c4, .int .i64 s]) := tBelow_row b4 (Nat.le_refl _) _
    have q7 := setRow_heap w4 (w.heap.size + 1) _ (#[.slice a4 T c4, .int .i64 s]) 25 _ r4
    have o7 := tOwns_row o4 r4 (by decide) (#[.slice a4 T c4, .int .i64 s])
    refine heldOne (i := 6) (by kernel_rfl) (opStore (i := 6) rfl (by kernel_rfl) rfl 25 (.tmp 4) (.tmp 34) rfl (w.heap.size + 1) #[.slice a4 T c4, .int .i64 s] (by kernel_rfl) (by kernel_rfl) 25 _ r4 tpSize rfl hone ⟨e7, ?_⟩)
    refine heldTake (i := 7) 5 (v := .int .i64 0) rfl rfl (by kernel_rfl) (by kernel_rfl) (by kernel_rfl) (fun _ _ _ h => h) (Or.inl ⟨by rfl, fun _ _ => by kernel_rfl⟩) e7 ?_
    simp only [Act.put, List.setIfInBounds_toArray, List.set_cons_zero, List.set_cons_succ]
    exact wpAnyH_done (by kernel_rfl) (HK2.out a4 c4 _ ⟨q7, o7, e7⟩) _
  rintro g c Wz ⟨qR, oR, eR⟩
  have dR := d3.trans (eR.mono (by omega))
  have HTL : Hid ((d ++ recoL b).length = T) := by unfold Hid; rw [HR.out, List.length_append, HM.out, HN.out]; exact HT.out
  clear rp3 rr3 c1 HO3
  go_wp2
  refine bodyPost_ret (tRow2 rfl _ _ (w.heap.size + 1) 25 _ (0, 0) _ rfl qR Tryd.underlying25 rfl tpSize) rfl ?_
  rw [HTL.out, HR.out]
  exact ⟨_, rfl, tOwns_base oR (by omega), dR⟩
end Go.Proofs.YthmlikljeoamgabDoor
/-
  The walks of the program's own bodies of records.
-/
namespace Go.Proofs.YthmlikljeoamgabDoor
open Go.RowKit
set_option linter.unusedVariables false

set_option maxHeartbeats 2000000 in
set_option maxRecDepth 100000 in
theorem sproBody_any (b : Bal) (hb : BalMay b) (w : World) :
    Calls Tryd.prog 31 #[.agg (baA b)] w fun e w' => ∃ y, e = .returned y ∧ w'.ownsRow w.heap.size 5 1 y 9 ((proB b).map (Value.int .u8)) ∧ Below w.heap.size w w' := by
  obtain ⟨br, bn⟩ := b
  have hb' := hb
  unfold BalMay at hb'
  simp only at hb'
  have HB : Hid (BalMay ⟨br, bn⟩) := hb
  clear hb
  simp only [baA]
  obtain ⟨W0, hW0⟩ : ∃ W0, w.alloc (.cells #[.int .i64 br, .int .i64 bn] 30) = W0 := ⟨_, rfl⟩
  have r0_p : W0.heap[w.heap.size]? = some (.cells #[.int .i64 br, .int .i64 bn] 30) := by rw [← hW0]; exact t_alloc1_0 _ _
  have bb : Below w.heap.size w W0 := by rw [← hW0]; exact t_allocB1 _ _
  have l0_p : w.heap.size < W0.heap.size := (Array.getElem?_eq_some_iff.1 r0_p).1
  obtain ⟨W1, hW1⟩ : ∃ W1, W0.alloc (.cells #[.int .u8 1] 5) = W1 := ⟨_, rfl⟩
  have b1 : Below W0.heap.size W0 W1 := by rw [← hW1]; exact t_allocB1 _ _
  have o1 : W1.ownsRow W0.heap.size 5 1 (.slice (some ⟨W0.heap.size, 0, none⟩) 1 1) [(1 : Int)].length ([(1 : Int)].map (Value.int .u8)) := by rw [← hW1]; exact tOwns_one W0 1 1 5 rfl (Nat.le_refl _) rfl
  have d1 := bb.trans (b1.mono bb.size)
  have rw1_p := (b1.block _ l0_p).trans r0_p
  have lw1_p := Nat.lt_of_lt_of_le l0_p b1.size
  clear l0_p r0_p
  have cc1_p0 : W1.cell? ⟨w.heap.size, 0, none⟩ = some (.int .i64 br) := cell_of_row _ _ 0 _ _ _ rw1_p
  have cc1_p1 : W1.cell? ⟨w.heap.size, 1, none⟩ = some (.int .i64 bn) := cell_of_row _ _ 1 _ _ _ rw1_p
  obtain ⟨W2, hW2⟩ : ∃ W2, W1.alloc (.cells #[.int .i64 br, .int .i64 bn] 3) = W2 := ⟨_, rfl⟩
  have b2 : Below W1.heap.size W1 W2 := by rw [← hW2]; exact t_allocB1 _ _
  have rn : W2.heap[W1.heap.size]? = some (.cells ([br, bn].map (Value.int .i64)).toArray 3) := by rw [← hW2]; exact heap_alloc_new _ _
  have z1 : W0.heap.size ≤ W2.heap.size := Nat.le_trans b1.size b2.size
  have d2 := d1.trans (b2.mono d1.size)
  have rw2_p := (b2.block _ lw1_p).trans rw1_p
  have lw2_p := Nat.lt_of_lt_of_le lw1_p b2.size
  have ow2_o := tOwns_keep o1 (fun k hk => b2.block k (o1.lt k hk).2)
  clear lw1_p rw1_p o1
  go_enter Tryd.func31, Tryd.ntmps31
  go_wp2_with fail
  clear hW0 hW1 hW2 cc1_p0 cc1_p1
  refine (putNumbers_any (.slice (some ⟨W0.heap.size, 0, none⟩) 1 1) [1] [br, bn] W0.heap.size W1.heap.size W2 ow2_o z1 (by simp) (by simp) (by intro x hx; simp at hx; omega) rn).mono ?_
  rintro e w3 ⟨v3, rfl, o3, b3⟩
  have d3 := d2.trans (b3.mono bb.size)
  have HO : Hid (w3.ownsRow w.heap.size 5 1 v3 9 ((proB ⟨br, bn⟩).map (Value.int .u8))) := tOwns_base o3 bb.size
  clear o3 b3 rn ow2_o
  go_wp2
  go_ret
  exact ⟨_, rfl, HO.out, d3⟩
set_option maxHeartbeats 2000000 in
set_option maxRecDepth 100000 in
theorem svotBody_any (v : Vt) (hv : VtMay v) (x : Value) (w : World) (hx : Sl w x (comL v.w.k v.w.c v.w.s v.w.n v.w.v)) :
    Calls Tryd.prog 33 #[.agg (vtA v), x] w fun e w' => ∃ y, e = .returned y ∧ w'.ownsRow w.heap.size 5 1 y 33 ((votB v).map (Value.int .u8)) ∧ Below w.heap.size w w' := by
  obtain ⟨vs, ⟨vr, vn⟩, ⟨vk, vc, vq, vm, vx⟩⟩ := v
  have hv' := hv
  unfold VtMay BalMay at hv'
  simp only at hv' hx
  obtain ⟨hv1, hv2, -⟩ := hv'
  clear hv
  simp only [vtA, vtC]
  obtain ⟨W0, hW0⟩ : ∃ W0, w.alloc (.cells #[.int .i64 vs, .int .i64 vr, .int .i64 vn, .int .i64 vk, .int .i64 vc, .int .i64 vq, .int .i64 vm, .int .i64 vx] 57) = W0 := ⟨_, rfl⟩
  have r0_p : W0.heap[w.heap.size]? = some (.cells #[.int .i64 vs, .int .i64 vr, .int .i64 vn, .int .i64 vk, .int .i64 vc, .int .i64 vq, .int .i64 vm, .int .i64 vx] 57) := by rw [← hW0]; exact t_alloc1_0 _ _
  have bb : Below w.heap.size w W0 := by rw [← hW0]; exact t_allocB1 _ _
  have l0_p : w.heap.size < W0.heap.size := (Array.getElem?_eq_some_iff.1 r0_p).1
  have sl0_x := hx.below bb
  obtain ⟨W1, hW1⟩ : ∃ W1, W0.alloc (.cells #[.int .u8 2] 5) = W1 := ⟨_, rfl⟩
  have b1 : Below W0.heap.size W0 W1 := by rw [← hW1]; exact t_allocB1 _ _
  have o1 : W1.ownsRow W0.heap.size 5 1 (.slice (some ⟨W0.heap.size, 0, none⟩) 1 1) [(2 : Int)].length ([(2 : Int)].map (Value.int .u8)) := by rw [← hW1]; exact tOwns_one W0 2 2 5 rfl (Nat.le_refl _) rfl
  have d1 := bb.trans (b1.mono bb.size)
  have rw1_p := (b1.block _ l0_p).trans r0_p
  have lw1_p := Nat.lt_of_lt_of_le l0_p b1.size
  have sl1_x := sl0_x.below b1
  clear l0_p r0_p sl0_x
  have cc1_p0 : W1.cell? ⟨w.heap.size, 0, none⟩ = some (.int .i64 vs) := cell_of_row _ _ 0 _ _ _ rw1_p
  have cc1_p1 : W1.cell? ⟨w.heap.size, 1, none⟩ = some (.int .i64 vr) := cell_of_row _ _ 1 _ _ _ rw1_p
  have cc1_p2 : W1.cell? ⟨w.heap.size, 2, none⟩ = some (.int .i64 vn) := cell_of_row _ _ 2 _ _ _ rw1_p
  obtain ⟨W2, hW2⟩ : ∃ W2, W1.alloc (.cells #[.int .i64 vs, .int .i64 vr, .int .i64 vn] 3) = W2 := ⟨_, rfl⟩
  have b2 : Below W1.heap.size W1 W2 := by rw [← hW2]; exact t_allocB1 _ _
  have rn : W2.heap[W1.heap.size]? = some (.cells ([vs, vr, vn].map (Value.int .i64)).toArray 3) := by rw [← hW2]; exact heap_alloc_new _ _
  have z1 : W0.heap.size ≤ W2.heap.size := Nat.le_trans b1.size b2.size
  have d2 := d1.trans (b2.mono d1.size)
  have rw2_p := (b2.block _ lw1_p).trans rw1_p
  have lw2_p := Nat.lt_of_lt_of_le lw1_p b2.size
  have sl2_x := sl1_x.below b2
  have ow2_o := tOwns_keep o1 (fun k hk => b2.block k (o1.lt k hk).2)
  clear lw1_p rw1_p sl1_x o1
  go_enter Tryd.func33, Tryd.ntmps33
  go_wp2_with fail
  clear hW0 hW1 hW2 cc1_p0 cc1_p1 cc1_p2
  refine (putNumbers_any (.slice (some ⟨W0.heap.size, 0, none⟩) 1 1) [2] [vs, vr, vn] W0.heap.size W1.heap.size W2 ow2_o z1 (by simp) (by simp) (by intro x hx; simp at hx; omega) rn).mono ?_
  rintro e w3 ⟨v3, rfl, o3, b3⟩
  have d3 := d2.trans (b3.mono bb.size)
  have sx3 := hx.below d3
  have z3 : W0.heap.size ≤ w3.heap.size := Nat.le_trans z1 b3.size
  have hlt := o3.lt
  have HB : Hid ([2] ++ numsL [vs, vr, vn] ++ comL vk vc vq vm vx = votB ⟨vs, ⟨vr, vn⟩, ⟨vk, vc, vq, vm, vx⟩⟩) := rfl
  have hll : ([(2 : Int)] ++ numsL [vs, vr, vn]).length + (comL vk vc vq vm vx).length ≤ 140737488355328 := by show 33 ≤ _; decide
  generalize hL : [(2 : Int)] ++ numsL [vs, vr, vn] = L at o3 HB hll
  generalize hC : comL vk vc vq vm vx = C at sx3 HB hll
  clear hL hC rn b3 ow2_o
  go_wp2_with (at_builtin; refine wpList_append_sl _ rfl _ _ 23 rfl W0.heap.size 5 Tryd.underlying23 info5 _ _ rfl rfl L C o3 sx3 hll z3 ?_)
  intro v4 w4 o4 g4
  have d4 : Below w.heap.size w w4 := d3.grown g4 (Nat.le_trans bb.size z3) (fun k hk => Nat.le_trans bb.size (hlt k hk).1)
  have HO : Hid (w4.ownsRow w.heap.size 5 1 v4 33 ((votB ⟨vs, ⟨vr, vn⟩, ⟨vk, vc, vq, vm, vx⟩⟩).map (Value.int .u8))) := by
    have o4b : w4.ownsRow W0.heap.size 5 1 v4 (L ++ C).length ((L ++ C).map (Value.int .u8)) := by simpa using o4
    have := tOwns_base o4b bb.size
    rw [HB.out] at this
    exact this
  clear o4 g4 o3 hlt HB
  go_wp2
  go_ret
  exact ⟨_, rfl, HO.out, d4⟩
end Go.Proofs.YthmlikljeoamgabDoor
