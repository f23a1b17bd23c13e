/-
  The walk of the document's line of an act.
-/
import Derived.Test.YtlcbebiocmmbaaaDoorLinDec
import Derived.Test.YtlcbebiocmmbaaaDoorLinHexD
import Derived.Test.YtlcbebiocmmbaaaDoorLinWordD
import Derived.Test.YtlcbebiocmmbaaaDoorLinUses
import Derived.Test.YtlcbebiocmmbaaaDoorLinRow
import Derived.Test.YtlcbebiocmmbaaaDoorTail
import Derived.Lib.AppendStr
namespace Go.Proofs.YtlcbebiocmmbaaaDoor
open Go.RowKit
set_option linter.unusedVariables false

/-- a line that is being put together: its row, and the act beside it -/
structure LnS (w W : World) (cs : Array Value) (v : Value) (l : List Int) : Prop where
  own : W.ownsRow w.heap.size 5 1 v l.length (l.map (Value.int .u8))
  bel : Below w.heap.size w W
  row : W.heap[w.heap.size]? = some (.cells cs 24)
theorem LnS.grown {w W W' : World} {cs : Array Value} {v v' : Value} {l l' : List Int} (h : LnS w W cs v l) (o : W'.ownsRow w.heap.size 5 1 v' l'.length (l'.map (Value.int .u8))) (g : W.grownBy W' v.ownBlock) : LnS w W' cs v' l' :=
  ⟨o, h.bel.grown g h.bel.size (fun k hk => (h.own.lt k hk).1), (g.block _ (Array.getElem?_eq_some_iff.1 h.row).1 (fun e => tOwns_neE h.own h.row (by decide) _ e.symm rfl)).trans h.row⟩
theorem LnS.below {w W W' : World} {cs : Array Value} {v : Value} {l : List Int} (h : LnS w W cs v l) (b : Below W.heap.size W W') : LnS w W' cs v l :=
  ⟨tOwns_keep h.own (fun k hk => b.block k (h.own.lt k hk).2), h.bel.trans (b.mono h.bel.size), (b.block _ (Array.getElem?_eq_some_iff.1 h.row).1).trans h.row⟩
theorem LnS.alloc {w W : World} {cs : Array Value} {v : Value} {l : List Int} (h : LnS w W cs v l) (ob : Obj) : LnS w (W.alloc ob) cs v l := h.below ((Below.refl _ _).alloc (Nat.le_refl _) _)
theorem LnS.shape {w W : World} {cs : Array Value} {v : Value} {l : List Int} (h : LnS w W cs v l) : ∃ a c, v = .slice a l.length c := tOwns_shape h.own
theorem strCells_numsL {s : List Int} (hs : ∀ x ∈ s, 0 ≤ x ∧ x < 256) : Lib.strCells (strOfNums s) = s.map (Value.int .u8) := by
  induction s with
  | nil => rfl
  | cons c r ih =>
    have hc := hs c (by simp)
    have ih' := ih (fun x hx => hs x (by simp [hx]))
    unfold Lib.strCells strOfNums at ih' ⊢
    simp only [List.map_cons, List.cons.injEq] at ih' ⊢
    refine ⟨?_, ih'⟩
    congr 1
    rw [UInt8.toNat_ofNat']
    omega
theorem infoU8 : ∃ i, Tryd.prog.info? 5 = some i ∧ i.zero = some (.int .u8 0) ∧ i.size = 1 ∧ i.bytes = 1 := by
  have h : (Tryd.prog.info? 5).map (fun i => (i.zero, i.size, i.bytes)) = some (some (.int .u8 0), 1, 1) := by kernel_rfl
  obtain ⟨i, hi, h2⟩ := Option.map_eq_some_iff.1 h
  simp only [Prod.mk.injEq] at h2
  exact ⟨i, hi, h2.1, h2.2.1, h2.2.2⟩
/-- a text is appended -/
theorem wpList_append_txt {w W : World} {cs : Array Value} {l s : List Int} {ops : Array Oper} {rest : List Oper} {o : Oper} {a : Act} {Q : Exit → Act → World → Prop} (hgd : o.guard = none) (sl x : Operand)
    (ho : o.op = .call { callee := .builtin .append, args := #[sl, x], argTypes := #[22, 9] }) (v : Value) (hs : a.eval sl = v) (hx : a.eval x = .string (strOfNums s)) (hS : LnS w W cs v l) (hb : ∀ x ∈ s, 0 ≤ x ∧ x < 256) (hlen : l.length + s.length ≤ 1000000)
    (h : ∀ v' W', LnS w W' cs v' (l ++ s) → wpList Tryd.prog ops Q rest (a.put o.dst v') W') : wpList Tryd.prog ops Q (o :: rest) a W := by
  obtain ⟨i, hi, hz, hs1, hb1⟩ := infoU8
  refine Lib.wpList_append_own_string W hgd sl x 22 9 ho w.heap.size 5 i Tryd.underlying22 Tryd.underlying9 hi hz hs1 hb1 v l.length _ hs hS.own (strOfNums s) hx (by rw [str_size]; unfold maxLen; omega) (by rw [str_size]; omega) hS.bel.size ?_
  intro v' W' ho' hg' _
  refine h v' W' (hS.grown ?_ hg')
  rw [strCells_numsL hb, str_size] at ho'
  simpa using ho'
/-- bytes are appended -/
theorem wpList_append_byt {w W : World} {cs : Array Value} {l s : List Int} {ops : Array Oper} {rest : List Oper} {o : Oper} {a : Act} {Q : Exit → Act → World → Prop} (hgd : o.guard = none) (sl x : Operand)
    (ho : o.op = .call { callee := .builtin .append, args := #[sl, x], argTypes := #[22, 22] }) (v u : Value) (hs : a.eval sl = v) (hx : a.eval x = u) (hS : LnS w W cs v l) (hu : Sl W u s) (hlen : l.length + s.length ≤ 1000000)
    (h : ∀ v' W', LnS w W' cs v' (l ++ s) → wpList Tryd.prog ops Q rest (a.put o.dst v') W') : wpList Tryd.prog ops Q (o :: rest) a W := by
  refine wpList_append_sl W hgd sl x 22 ho w.heap.size 5 Tryd.underlying22 info5 v u hs hx l s hS.own hu (by omega) hS.bel.size ?_
  intro v' W' ho' hg'
  exact h v' W' (hS.grown ho' hg')
/-- two bytes in a row of their own -/
theorem two_sl (w : World) (c d : Int) (hc : 0 ≤ c ∧ c < 256) (hd : 0 ≤ d ∧ d < 256) : Sl (w.alloc (.cells #[.int .u8 c, .int .u8 d] 5)) (.slice (some ⟨w.heap.size, 0, none⟩) 2 2) [c, d] := by
  have hr := heap_alloc_new w (.cells #[.int .u8 c, .int .u8 d] 5)
  refine ⟨⟨_, 2, rfl, by simp, by simp, .inr ⟨w.heap.size, 0, rfl, by simp, fun i hi => ?_⟩⟩, by simp, fun x hx => by simp at hx; omega⟩
  have hi2 : i < 2 := by simpa using hi
  rcases (by omega : i = 0 ∨ i = 1) with rfl | rfl
  · rw [cell_of_row _ _ _ _ _ _ hr]; rfl
  · rw [cell_of_row _ _ _ _ _ _ hr]; rfl
theorem wordL_bytesD (k : Int) : ∀ c ∈ wordL k, 0 ≤ c ∧ c < 256 := fun c hc => by have := wordL_letters k c hc; omega
theorem wordL_lenD (k : Int) : (wordL k).length ≤ 6 := by
  unfold wordL
  repeat' split
  all_goals simp
theorem decL_byteD (n : Nat) : ∀ c ∈ decL n, 0 ≤ c ∧ c < 256 := fun c hc => by have := decL_digit n c hc; omega
theorem hexL_take (d : List Int) (i : Nat) (h : i < d.length) : hexL (d.take (i + 1)) = hexL (d.take i) ++ [hxD (d.getD i 0 / 16), hxD (d.getD i 0 % 16)] := by
  rw [List.take_succ_eq_append_getElem h, hexL_append, getD_at h]
  rfl
theorem y_mergeI {P : Program} {bk : Nat} {id : Nat} {ops : Array Oper} {K : Act → World → Prop} {Q : Exit → Act → World → Prop} {a : Act} {w : World} (R : Value → Nat → World → Prop) {A : Value → Nat → Act}
    (hreg : ∀ K' : Act → World → Prop, Hid (∀ v g W2, R v g W2 → K' (A v g) W2) → (Code.region id ops true).wp P (Exit.inBlock bk (Exit.then K' Q)) a w) (hrest : ∀ v g W2, R v g W2 → K (A v g) W2) : (Code.region id ops true).wp P (Exit.inBlock bk (Exit.then K Q)) a w := hreg K hrest
theorem size5y (w : World) : (Go.sizeOf 5).run Tryd.prog w = .ok 1 w := by
  have h : (Tryd.prog.info? 5).map (·.size) = some 1 := by kernel_rfl
  cases hi : Tryd.prog.info? 5 with
  | none => rw [hi] at h; cases h
  | some i =>
    rw [hi] at h
    simp at h
    simp [sizeOf, typeInfo, hi, h]
set_option maxRecDepth 100000 in
theorem runIndexY (b o n c : Nat) (i : Nat) (hi : i < n) (w : World) : (Instr.indexAt 22 (.slice (some ⟨b, o, none⟩) n c) (.int .i64 (i : Int))).run Tryd.prog w = .ok (.pointer (some ⟨b, o + i, none⟩)) w := by
  have e : Tryd.prog.elem 22 = 5 := by kernel_rfl
  rw [run_indexAt_slice (P := Tryd.prog) w 22 _ n c .i64 _ Tryd.underlying22, if_pos ⟨by omega, by omega⟩, e, size5y]
  simp [Result.andThen, Addr.add_mid]
theorem yieldIndexY {ops : Array Oper} {S : World → Prop} {op : Oper} {a : Act} (hw : Region.wanted op (yielded ops a.tmps) = true) (x y : Operand) (ho : op.op = .indexAddr 22 x y)
    (b o n c i : Nat) (hi : i < n) (hx : a.eval x = .slice (some ⟨b, o, none⟩) n c) (hy : a.eval y = .int .i64 (i : Int)) : YieldsIf Tryd.prog ops S op (.pointer (some ⟨b, o + i, none⟩)) a :=
  .inl ⟨hw, fun w _ => by
    unfold execOp
    simp only [ho, hx, hy, Sem.run_bind, Sem.run_pure, Result.andThen_ok, runIndexY b o n c i hi w]⟩
set_option maxRecDepth 100000 in
theorem run_build2 (c d : Int) (w : World) : (Instr.buildSlice 22 2 #[(0, .int .u8 c), (1, .int .u8 d)]).run Tryd.prog w = .ok (.slice (some ⟨w.heap.size, 0, none⟩) 2 2) (w.alloc (.cells #[.int .u8 c, .int .u8 d] 5)) := by
  obtain ⟨ie, hie, hz, hsz, _⟩ := info_parts (P := Tryd.prog) (e := 5) (z := .int .u8 0) (size := 1) (bytes := 1) (by kernel_rfl)
  refine run_buildSlice w 22 5 2 _ _ ie (.int .u8 0) Tryd.underlying22 hie hz (by rw [hsz]; decide) (by rw [hsz]; decide) ?_
  rw [hsz]
  kernel_rfl
theorem opBuild2 {ops : Array Oper} {Q : Exit → Act → World → Prop} {i d : Nat} {o : Oper} {a : Act} {w : World} {K : Act → World → Prop} (ho : ops[i]? = some o) (hw : Region.wanted o (yielded ops a.tmps) = true) (hd : o.dst = some d) (x y : Operand)
    (hop : o.op = .buildSlice 22 2 #[(0, x), (1, y)]) (c e : Int) (hx : a.eval x = .int .u8 c) (hy : a.eval y = .int .u8 e)
    (h : K (a.put (some d) (.slice (some ⟨w.heap.size, 0, none⟩) 2 2)) (w.alloc (.cells #[.int .u8 c, .int .u8 e] 5))) : wpOp Tryd.prog ops Q i K a w := by
  refine opRun ho hw hd ?_ h
  unfold execOp
  simp only [hop, Sem.run_bind, List.map_toArray, List.map_cons, List.map_nil, hx, hy, run_build2, Result.andThen_ok, Sem.run_pure]
theorem opAppendY {w W : World} {cs : Array Value} {l s : List Int} {ops : Array Oper} {Q : Exit → Act → World → Prop} {i d : Nat} {o : Oper} {a : Act} {K : Act → World → Prop} (ho : ops[i]? = some o) (hw : Region.wanted o (yielded ops a.tmps) = true) (hd : o.dst = some d) (sl x : Operand)
    (hop : o.op = .call { callee := .builtin .append, args := #[sl, x], argTypes := #[22, 22] })
    (v u : Value) (hs : a.eval sl = v) (hx : a.eval x = u) (hS : LnS w W cs v l) (hu : Sl W u s) (hlen : l.length + s.length ≤ 1000000)
    (h : ∀ v' W', LnS w W' cs v' (l ++ s) → K (a.put (some d) v') W') : wpOp Tryd.prog ops Q i K a W :=
  wpOp_step ho fun K' hK => by
    rw [if_pos hw]
    obtain ⟨v', W', hrun, r1, r2⟩ := run_append_sl (P := Tryd.prog) W w.heap.size 22 o.type 5 Tryd.underlying22 info5 v l hS.own u s hu (by omega) hS.bel.size
    unfold Oper.wp execOp
    simp only [hop, resolve, invoke, builtin, Sem.run_bind, Sem.run_pure, Result.andThen_ok, List.map_toArray, List.map_cons, List.map_nil, hs, hx, hrun]
    exact hK _ _ (by rw [hd]; exact h v' W' (hS.grown r1 r2))
theorem Sl.spotL {w : World} {a : Option Addr} {n cap : Nat} {l : List Int} (h : Sl w (.slice a n cap) l) (k : Nat) (hk : k < l.length) : ∃ bd od, a = some ⟨bd, od, none⟩ ∧ bd < w.heap.size ∧ w.cell? ⟨bd, od + k, none⟩ = some (.int .u8 (l.getD k 0)) := by
  obtain ⟨⟨a', cap', e', _, _, h1'⟩, _, _⟩ := h
  simp only [Value.slice.injEq] at e'
  obtain ⟨rfl, _, _⟩ := e'
  rcases h1' with rfl | ⟨b', o', rfl, hb', hc'⟩
  · simp at hk
  · exact ⟨b', o', rfl, hb', hc' k hk⟩
theorem hxD_byte {n : Int} (h0 : 0 ≤ n) (h1 : n < 16) : 0 ≤ hxD n ∧ hxD n < 256 := by unfold hxD; split <;> omega

set_option maxHeartbeats 2000000 in
set_option maxRecDepth 100000 in
theorem alineS (k a p : Int) (m : Nat) (hm : m ≤ 1048576) (v : Value) (d : List Int) (hdl : d.length ≤ 2000) (w : World) (hd : Sl w v d) (hN : useN k = true) (hA : useA k = false) (hK : useK k = false) (h1 : k = 1) :
    Calls Tryd.prog 29 #[.agg (laA k (m : Int) a p v)] w fun e w' => ∃ v', e = .returned v' ∧ w'.ownsRow w.heap.size 5 1 v' (wordL k ++ [32] ++ decL m ++ [32] ++ hexL d).length ((wordL k ++ [32] ++ decL m ++ [32] ++ hexL d).map (Value.int .u8)) ∧ Below w.heap.size w w' := by
  obtain ⟨LL, hLL⟩ : ∃ L, L = wordL k ++ [32] ++ decL m ++ [32] ++ hexL d := ⟨_, rfl⟩
  rw [← hLL]
  have HLL : Hid (LL = wordL k ++ [32] ++ decL m ++ [32] ++ hexL d) := hLL
  clear hLL
  obtain ⟨a0, cp, rfl⟩ := hd.shapeT
  have hwl := wordL_lenD k
  have hml := decL_len (n := m) 6 (by omega)
  have HD : Hid (Sl w (.slice a0 d.length cp) d) := hd
  have HU : Hid (useN k = true ∧ useA k = false ∧ useK k = false) := ⟨hN, hA, hK⟩
  have hb1 : (k == 1) = true := eq_beq h1
  clear hd hN hA hK h1
  obtain ⟨W0, hW0⟩ : ∃ W0, w.alloc (.cells (laA k (m : Int) a p (.slice a0 d.length cp)) 24) = W0 := ⟨_, rfl⟩
  have r0 : W0.heap[w.heap.size]? = some (.cells (laA k (m : Int) a p (.slice a0 d.length cp)) 24) := by rw [← hW0]; exact heap_alloc_new _ _
  have bW : Below w.heap.size w W0 := by rw [← hW0]; exact (Below.refl _ _).alloc (Nat.le_refl _) _
  have HS : Hid (LnS w W0 (laA k (m : Int) a p (.slice a0 d.length cp)) (.slice none 0 0) []) := ⟨World.ownsRow_nil _ _ _ _, bW, r0⟩
  have ck : W0.cell? ⟨w.heap.size, 0, none⟩ = some (.int .i64 k) := by rw [cell_of_row _ _ 0 _ _ _ r0]; rfl
  clear r0 bW
  unfold laA at hW0 ⊢
  go_enter Tryd.func29, Tryd.ntmps29
  go_wp2_with fail
  clear hW0
  refine (actWord_any k W0).mono ?_
  rintro e w1 ⟨rfl, rfl⟩
  go_upto_region 3 with (at_builtin; refine wpList_append_txt rfl _ _ rfl _ rfl rfl HS.out (wordL_bytesD _) (by simp only [List.length_nil]; omega) ?_; intro v9 W9 h9)
  obtain ⟨g9, c9, rfl⟩ := h9.shape
  rw [List.nil_append] at h9
  have ck9 : W9.cell? ⟨w.heap.size, 0, none⟩ = some (.int .i64 k) := by rw [cell_of_row _ _ 0 _ _ _ h9.row]; rfl
  have HS : Hid _ := h9
  clear h9 ck
  go_wp2_with fail
  refine (uses_any k W9).mono ?_
  rintro e w1 ⟨rfl, rfl⟩
  rw [HU.out.1, HU.out.2.1, HU.out.2.2]
  clear ck9 HU
  go_upto_region 6 with (at_builtin; refine wpList_append_byt rfl _ _ rfl _ _ rfl rfl (HS.out.alloc _) (one_sl _ 32 (by omega) (by omega)) (by simp only [List.length_cons, List.length_nil]; omega) ?_; intro v9 W9 h9)
  obtain ⟨L1, hL1⟩ : ∃ L, L = wordL k ++ [32] := ⟨_, rfl⟩
  have bL1 : L1.length ≤ 7 := by rw [hL1]; simp only [List.length_append, List.length_cons, List.length_nil]; omega
  rw [← hL1] at h9
  have HL1 : Hid (L1 = wordL k ++ [32]) := hL1
  clear hL1
  obtain ⟨g9, c9, rfl⟩ := h9.shape
  have HS : Hid _ := h9
  clear h9
  have ck : W9.cell? ⟨w.heap.size, 1, none⟩ = some (.int .i64 (m : Int)) := by rw [cell_of_row _ _ 1 _ _ _ HS.out.row]; rfl
  go_wp2_with fail
  refine (dec_any m (by omega) _).mono ?_
  rintro e w8 ⟨rfl, b8⟩
  have HS8 : Hid _ := HS.out.below b8
  clear b8 HS ck
  go_upto_region 7 with (at_builtin; refine wpList_append_txt rfl _ _ rfl _ rfl rfl HS8.out (decL_byteD _) (by omega) ?_; intro v9 W9 h9)
  clear HS8
  obtain ⟨L2, hL2⟩ : ∃ L, L = L1 ++ decL m := ⟨_, rfl⟩
  have bL2 : L2.length ≤ 14 := by rw [hL2]; simp only [List.length_append]; omega
  rw [← hL2] at h9
  have HL2 : Hid (L2 = L1 ++ decL m) := hL2
  clear hL2
  obtain ⟨g9, c9, rfl⟩ := h9.shape
  have HS : Hid _ := h9
  clear h9
  have ck : W9.cell? ⟨w.heap.size, 0, none⟩ = some (.int .i64 k) := by rw [cell_of_row _ _ 0 _ _ _ HS.out.row]; rfl
  go_upto_region 15 with (at_builtin; refine wpList_append_byt rfl _ _ rfl _ _ rfl rfl (HS.out.alloc _) (one_sl _ 32 (by omega) (by omega)) (by simp only [List.length_cons, List.length_nil]; omega) ?_; intro v9 W9 h9)
  obtain ⟨L3, hL3⟩ : ∃ L, L = L2 ++ [32] := ⟨_, rfl⟩
  have bL3 : L3.length ≤ 15 := by rw [hL3]; simp only [List.length_append, List.length_cons, List.length_nil]; omega
  rw [← hL3] at h9
  have HL3 : Hid (L3 = L2 ++ [32]) := hL3
  clear hL3
  obtain ⟨g9, c9, rfl⟩ := h9.shape
  have HS : Hid _ := h9
  clear h9
  have HS0 : Hid (LnS w W9 (laA k (m : Int) a p (.slice a0 d.length cp)) (.slice g9 (L3).length c9) (L3 ++ hexL (d.take 0))) := by unfold Hid; rw [List.take_zero]; simpa [hexL] using HS.out
  clear HS ck
  go_wp2_with fail
  go_loopw [3, 7] (fun ev iv wr => ∃ i : Nat, i ≤ d.length ∧ iv = .int .i64 (i : Int) ∧ Hid (LnS w wr (laA k (m : Int) a p (.slice a0 d.length cp)) ev (L3 ++ hexL (d.take i)))) (fun _ iv _ => ((d.length : Int) - intOf iv).toNat)
  case atStart => exact ⟨0, by omega, rfl, HS0⟩
  case round =>
    clear HS0
    obtain ⟨i, hin, rfl, HP⟩ := hrel
    obtain ⟨gv, cv, hev⟩ := HP.out.shape
    subst hev
    have c4 : wr.cell? ⟨w.heap.size, 4, none⟩ = some (.slice a0 d.length cp) := by rw [cell_of_row _ _ 4 _ _ _ HP.out.row]; rfl
    have hpl : (L3).length ≤ 40 := by omega
    have htl : (hexL (d.take i)).length ≤ 4000 := by rw [hexL_length, List.length_take]; omega
    obtain ⟨L, hL⟩ : ∃ L, (L3 ++ hexL (d.take i)).length = L := ⟨_, rfl⟩
    have hLb : L ≤ 4040 := by rw [← hL, List.length_append]; omega
    rw [hL]
    by_cases hlt : i < d.length
    · have hlI : (i : Int) < (d.length : Int) := by omega
      have i0 : (0 : Int) ≤ (i : Int) := by omega
      obtain ⟨bd, od, rfl, hbd, hcd⟩ := HD.out.spotL i hlt
      have cd : wr.cell? ⟨bd, od + i, none⟩ = some (.int .u8 (d.getD i 0)) := (HP.out.bel.cell (p := ⟨bd, od + i, none⟩) hbd).trans hcd
      have hby := getD_byte HD.out.byte i
      have HT : Hid (L3 ++ hexL (d.take (i + 1)) = L3 ++ hexL (d.take i) ++ [hxD (d.getD i 0 / 16), hxD (d.getD i 0 % 16)]) := by unfold Hid; rw [hexL_take d i hlt]; simp
      have HPS : Hid (LnS w wr (laA k (m : Int) a p (.slice (some ⟨bd, od, none⟩) d.length cp)) (.slice gv L cv) (L3 ++ hexL (d.take i))) := by have h := HP.out; rwa [hL] at h
      have HLL : Hid ((L3 ++ hexL (d.take i)).length = L) := hL
      generalize L3 ++ hexL (d.take i) = pre at HT HPS HLL
      generalize d.getD i 0 = y at cd hby HT hcd
      have HCD : Hid (w.cell? ⟨bd, od + i, none⟩ = some (.int .u8 y)) := hcd
      have y1 : 0 ≤ y / 16 := by omega
      have y2 : y / 16 < 16 := by omega
      have y3 : 0 ≤ y % 16 := by omega
      have y4 : y % 16 < 16 := by omega
      have q1 := run_quoL 16 (by omega) y (by omega) (by omega)
      have q2 := run_remL 16 (by omega) y (by omega)
      have q3 := run_numL y (by omega) (by omega)
      have z1 := hxD_byte y1 y2
      have z2 := hxD_byte y3 y4
      have HC1 : Hid (Calls Tryd.prog 43 #[.int .i64 (y / 16)] wr.drew fun e w' => e = .returned (.int .u8 (hxD (y / 16))) ∧ w' = wr.drew) := hexDigit_any _ y1 y2 _
      have HC2 : Hid (Calls Tryd.prog 43 #[.int .i64 (y % 16)] wr.drew fun e w' => e = .returned (.int .u8 (hxD (y % 16))) ∧ w' = wr.drew) := hexDigit_any _ y3 y4 _
      generalize hxD (y / 16) = u1 at HT z1 HC1
      generalize hxD (y % 16) = u2 at HT z2 HC2
      clear HP hL hcd hpl htl
      go_wp2_with fail
      apply y_mergeI (fun v9 _ Wz => LnS w Wz (laA k (m : Int) a p (.slice (some ⟨bd, od, none⟩) d.length cp)) v9 (pre ++ [u1, u2]))
      · intro K2 HK2
        have hQ : LnS w wr.drew (laA k (m : Int) a p (.slice (some ⟨bd, od, none⟩) d.length cp)) (.slice gv L cv) pre := HPS.out.below (Below.refl _ _).drew
        have bdl : bd < wr.heap.size := Nat.lt_of_lt_of_le hbd HPS.out.bel.size
        obtain ⟨S, hSd⟩ : ∃ S : World → Prop, ∀ w', S w' ↔ (w'.cell? ⟨w.heap.size, 4, none⟩ = some (.slice (some ⟨bd, od, none⟩) d.length cp) ∧ w'.cell? ⟨bd, od + i, none⟩ = some (.int .u8 y)) := ⟨_, fun _ => Iff.rfl⟩
        have ed : S wr.drew := (hSd _).2 ⟨c4, cd⟩
        refine wp_region_held (S := S) (by kernel_rfl) ?_
        refine heldTake (i := 0) 60 (v := .slice gv L cv) rfl rfl (by kernel_rfl) (by kernel_rfl) (by kernel_rfl) (fun _ _ _ h => h) (Or.inl ⟨by rfl, fun _ _ => by kernel_rfl⟩) ed ?_
        simp only [Act.put, List.setIfInBounds_toArray, List.set_cons_zero, List.set_cons_succ]
        refine heldTake (i := 1) 61 (v := .pointer (some ⟨w.heap.size, 4, none⟩)) rfl rfl (by kernel_rfl) (by kernel_rfl) (by kernel_rfl) (fun _ _ _ h => h) (Or.inl ⟨by rfl, fun _ _ => by kernel_rfl⟩) ed ?_
        simp only [Act.put, List.setIfInBounds_toArray, List.set_cons_zero, List.set_cons_succ]
        refine heldTake (i := 2) 62 (v := .slice (some ⟨bd, od, none⟩) d.length cp) rfl rfl (by kernel_rfl) (by kernel_rfl) (by kernel_rfl) (fun _ _ _ h => h) (yieldCell (by rfl) 22 (.tmp 61) rfl _ Tryd.underlying22 rfl ⟨w.heap.size, 4, none⟩ rfl _ (fun w' hw' => ((hSd _).1 hw').1)) ed ?_
        simp only [Act.put, List.setIfInBounds_toArray, List.set_cons_zero, List.set_cons_succ]
        refine heldTake (i := 3) 63 (v := .int .i64 (i : Int)) rfl rfl (by kernel_rfl) (by kernel_rfl) (by kernel_rfl) (fun _ _ _ h => h) (Or.inl ⟨by rfl, fun _ _ => by kernel_rfl⟩) ed ?_
        simp only [Act.put, List.setIfInBounds_toArray, List.set_cons_zero, List.set_cons_succ]
        refine heldTake (i := 4) 64 (v := .pointer (some ⟨bd, od + i, none⟩)) rfl rfl (by kernel_rfl) (by kernel_rfl) (by kernel_rfl) (fun _ _ _ h => h) (yieldIndexY (by rfl) (.tmp 62) (.tmp 63) rfl bd od d.length cp i hlt rfl rfl) ed ?_
        simp only [Act.put, List.setIfInBounds_toArray, List.set_cons_zero, List.set_cons_succ]
        refine heldTake (i := 5) 65 (v := .int .u8 y) rfl rfl (by kernel_rfl) (by kernel_rfl) (by kernel_rfl) (fun _ _ _ h => h) (yieldCell (by rfl) 5 (.tmp 64) rfl _ Tryd.underlying5 rfl ⟨bd, od + i, none⟩ rfl _ (fun w' hw' => ((hSd _).1 hw').2)) ed ?_
        simp only [Act.put, List.setIfInBounds_toArray, List.set_cons_zero, List.set_cons_succ]
        refine heldTake (i := 6) 66 (v := .int .i64 y) rfl rfl (by kernel_rfl) (by kernel_rfl) (by kernel_rfl) (fun _ _ _ h => h) (yieldConv (by rfl) 5 3 (.tmp 65) rfl _ _ rfl q3) ed ?_
        simp only [Act.put, List.setIfInBounds_toArray, List.set_cons_zero, List.set_cons_succ]
        refine heldTake (i := 7) 67 (v := .int .i64 (y / 16)) rfl rfl (by kernel_rfl) (by kernel_rfl) (by kernel_rfl) (fun _ _ _ h => h) (yieldBin (by rfl) .quo 3 3 (.tmp 66) (.const (.int .i64 16)) rfl _ _ _ rfl rfl (fun _ => rfl) q1) ed ?_
        simp only [Act.put, List.setIfInBounds_toArray, List.set_cons_zero, List.set_cons_succ]
        refine heldTake (i := 9) 69 (v := .pointer (some ⟨w.heap.size, 4, none⟩)) rfl rfl (by kernel_rfl) (by kernel_rfl) (by kernel_rfl) (fun _ _ _ h => h) (Or.inl ⟨by rfl, fun _ _ => by kernel_rfl⟩) ed ?_
        simp only [Act.put, List.setIfInBounds_toArray, List.set_cons_zero, List.set_cons_succ]
        refine heldTake (i := 10) 70 (v := .slice (some ⟨bd, od, none⟩) d.length cp) rfl rfl (by kernel_rfl) (by kernel_rfl) (by kernel_rfl) (fun _ _ _ h => h) (yieldCell (by rfl) 22 (.tmp 69) rfl _ Tryd.underlying22 rfl ⟨w.heap.size, 4, none⟩ rfl _ (fun w' hw' => ((hSd _).1 hw').1)) ed ?_
        simp only [Act.put, List.setIfInBounds_toArray, List.set_cons_zero, List.set_cons_succ]
        refine heldTake (i := 11) 71 (v := .int .i64 (i : Int)) rfl rfl (by kernel_rfl) (by kernel_rfl) (by kernel_rfl) (fun _ _ _ h => h) (Or.inl ⟨by rfl, fun _ _ => by kernel_rfl⟩) ed ?_
        simp only [Act.put, List.setIfInBounds_toArray, List.set_cons_zero, List.set_cons_succ]
        refine heldTake (i := 12) 72 (v := .pointer (some ⟨bd, od + i, none⟩)) rfl rfl (by kernel_rfl) (by kernel_rfl) (by kernel_rfl) (fun _ _ _ h => h) (yieldIndexY (by rfl) (.tmp 70) (.tmp 71) rfl bd od d.length cp i hlt rfl rfl) ed ?_
        simp only [Act.put, List.setIfInBounds_toArray, List.set_cons_zero, List.set_cons_succ]
        refine heldTake (i := 13) 73 (v := .int .u8 y) rfl rfl (by kernel_rfl) (by kernel_rfl) (by kernel_rfl) (fun _ _ _ h => h) (yieldCell (by rfl) 5 (.tmp 72) rfl _ Tryd.underlying5 rfl ⟨bd, od + i, none⟩ rfl _ (fun w' hw' => ((hSd _).1 hw').2)) ed ?_
        simp only [Act.put, List.setIfInBounds_toArray, List.set_cons_zero, List.set_cons_succ]
        refine heldTake (i := 14) 74 (v := .int .i64 y) rfl rfl (by kernel_rfl) (by kernel_rfl) (by kernel_rfl) (fun _ _ _ h => h) (yieldConv (by rfl) 5 3 (.tmp 73) rfl _ _ rfl q3) ed ?_
        simp only [Act.put, List.setIfInBounds_toArray, List.set_cons_zero, List.set_cons_succ]
        refine heldTake (i := 15) 75 (v := .int .i64 (y % 16)) rfl rfl (by kernel_rfl) (by kernel_rfl) (by kernel_rfl) (fun _ _ _ h => h) (yieldBin (by rfl) .rem 3 3 (.tmp 74) (.const (.int .i64 16)) rfl _ _ _ rfl rfl (fun _ => rfl) q2) ed ?_
        simp only [Act.put, List.setIfInBounds_toArray, List.set_cons_zero, List.set_cons_succ]
        refine heldOne (i := 8) (by kernel_rfl) (opCall (i := 8) (d := 68) (f := 43) (args := #[.int .i64 (y / 16)]) rfl (by kernel_rfl) rfl (by kernel_rfl) (Calls.mono HC1.out ?_))
        rintro e' wc ⟨rfl, rfl⟩
        refine ⟨_, rfl, ed, ?_⟩
        simp only [Act.put, List.setIfInBounds_toArray, List.set_cons_zero, List.set_cons_succ]
        refine heldOne (i := 16) (by kernel_rfl) (opCall (i := 16) (d := 76) (f := 43) (args := #[.int .i64 (y % 16)]) rfl (by kernel_rfl) rfl (by kernel_rfl) (Calls.mono HC2.out ?_))
        rintro e' wc ⟨rfl, rfl⟩
        refine ⟨_, rfl, ed, ?_⟩
        simp only [Act.put, List.setIfInBounds_toArray, List.set_cons_zero, List.set_cons_succ]
        have bal : Below wr.drew.heap.size wr.drew (wr.drew.alloc (.cells #[.int .u8 u1, .int .u8 u2] 5)) := (Below.refl _ _).alloc (Nat.le_refl _) _
        have wl : w.heap.size < wr.drew.heap.size := (Array.getElem?_eq_some_iff.1 hQ.row).1
        have e2 : S (wr.drew.alloc (.cells #[.int .u8 u1, .int .u8 u2] 5)) := (hSd _).2 ⟨(bal.cell (p := ⟨w.heap.size, 4, none⟩) wl).trans c4, (bal.cell (p := ⟨bd, od + i, none⟩) bdl).trans cd⟩
        refine heldOne (i := 17) (by kernel_rfl) (opBuild2 (i := 17) (d := 77) rfl (by kernel_rfl) rfl (.tmp 68) (.tmp 76) rfl u1 u2 (by kernel_rfl) (by kernel_rfl) ⟨e2, ?_⟩)
        simp only [Act.put, List.setIfInBounds_toArray, List.set_cons_zero, List.set_cons_succ]
        have hQ2 := hQ.alloc (.cells #[.int .u8 u1, .int .u8 u2] 5)
        have s2 := two_sl wr.drew u1 u2 z1 z2
        generalize wr.drew.alloc (.cells #[.int .u8 u1, .int .u8 u2] 5) = W2 at hQ2 s2 e2 ⊢
        generalize wr.drew.heap.size = gx at s2 ⊢
        refine heldOne (i := 18) (by kernel_rfl) (opAppendY (i := 18) (d := 78) rfl (by kernel_rfl) rfl (.tmp 60) (.tmp 77) rfl (.slice gv L cv) (.slice (some ⟨gx, 0, none⟩) 2 2) (by kernel_rfl) (by kernel_rfl) hQ2 s2 (by rw [HLL.out]; simp only [List.length_cons, List.length_nil]; omega) ?_)
        intro v9 W9 h9
        have c49 : W9.cell? ⟨w.heap.size, 4, none⟩ = some (.slice (some ⟨bd, od, none⟩) d.length cp) := by rw [cell_of_row _ _ 4 _ _ _ h9.row]; rfl
        have cd9 : W9.cell? ⟨bd, od + i, none⟩ = some (.int .u8 y) := (h9.bel.cell (p := ⟨bd, od + i, none⟩) hbd).trans HCD.out
        have e9 : S W9 := (hSd _).2 ⟨c49, cd9⟩
        refine ⟨e9, ?_⟩
        simp only [Act.put, List.setIfInBounds_toArray, List.set_cons_zero, List.set_cons_succ]
        refine heldTake (i := 19) 3 (v := v9) rfl rfl (by kernel_rfl) (by kernel_rfl) (by kernel_rfl) (fun _ _ _ h => h) (Or.inl ⟨by rfl, fun _ _ => by kernel_rfl⟩) e9 ?_
        simp only [Act.put, List.setIfInBounds_toArray, List.set_cons_zero, List.set_cons_succ]
        exact wpAnyH_done (by kernel_rfl) (HK2.out v9 gx _ h9) _
      rintro v9 gx W9 h9
      have HR : Hid _ := h9
      clear h9 HPS cd q1 q2 q3 c4 HCD hbd HC1 HC2
      go_wp2
      go_roundw
      case rel => exact ⟨i + 1, by omega, by go_num, by rw [HT.out]; exact HR⟩
      case measure => simp [intOf]; omega
    · obtain rfl : i = d.length := by omega
      have hlI : ¬ (d.length : Int) < (d.length : Int) := by omega
      have HR : Hid (wr.ownsRow w.heap.size 5 1 (.slice gv L cv) (L3 ++ hexL d).length ((L3 ++ hexL d).map (Value.int .u8)) ∧ Below w.heap.size w wr) := by have h := HP.out.own; rw [List.take_length] at h hL; rw [← hL]; exact ⟨h, HP.out.bel⟩
      clear HP hL
      go_wp2
      go_ret
      refine ⟨_, rfl, ?_, HR.out.2⟩
      rw [HLL.out, ← HL1.out, ← HL2.out, ← HL3.out]
      exact HR.out.1
set_option maxHeartbeats 2000000 in
set_option maxRecDepth 100000 in
theorem alineN (k a p : Int) (m : Nat) (hm : m ≤ 1048576) (v : Value) (d : List Int) (hdl : d.length ≤ 2000) (w : World) (hd : Sl w v d) (hN : useN k = true) (hA : useA k = false) (hK : useK k = false) (h1 : ¬ k = 1) :
    Calls Tryd.prog 29 #[.agg (laA k (m : Int) a p v)] w fun e w' => ∃ v', e = .returned v' ∧ w'.ownsRow w.heap.size 5 1 v' (wordL k ++ [32] ++ decL m).length ((wordL k ++ [32] ++ decL m).map (Value.int .u8)) ∧ Below w.heap.size w w' := by
  obtain ⟨LL, hLL⟩ : ∃ L, L = wordL k ++ [32] ++ decL m := ⟨_, rfl⟩
  rw [← hLL]
  have HLL : Hid (LL = wordL k ++ [32] ++ decL m) := hLL
  clear hLL
  obtain ⟨a0, cp, rfl⟩ := hd.shapeT
  have hwl := wordL_lenD k
  have hml := decL_len (n := m) 6 (by omega)
  have HD : Hid (Sl w (.slice a0 d.length cp) d) := hd
  have HU : Hid (useN k = true ∧ useA k = false ∧ useK k = false) := ⟨hN, hA, hK⟩
  have hb1 : (k == 1) = false := ne_beq h1
  clear hd hN hA hK h1
  obtain ⟨W0, hW0⟩ : ∃ W0, w.alloc (.cells (laA k (m : Int) a p (.slice a0 d.length cp)) 24) = W0 := ⟨_, rfl⟩
  have r0 : W0.heap[w.heap.size]? = some (.cells (laA k (m : Int) a p (.slice a0 d.length cp)) 24) := by rw [← hW0]; exact heap_alloc_new _ _
  have bW : Below w.heap.size w W0 := by rw [← hW0]; exact (Below.refl _ _).alloc (Nat.le_refl _) _
  have HS : Hid (LnS w W0 (laA k (m : Int) a p (.slice a0 d.length cp)) (.slice none 0 0) []) := ⟨World.ownsRow_nil _ _ _ _, bW, r0⟩
  have ck : W0.cell? ⟨w.heap.size, 0, none⟩ = some (.int .i64 k) := by rw [cell_of_row _ _ 0 _ _ _ r0]; rfl
  clear r0 bW
  unfold laA at hW0 ⊢
  go_enter Tryd.func29, Tryd.ntmps29
  go_wp2_with fail
  clear hW0
  refine (actWord_any k W0).mono ?_
  rintro e w1 ⟨rfl, rfl⟩
  go_upto_region 3 with (at_builtin; refine wpList_append_txt rfl _ _ rfl _ rfl rfl HS.out (wordL_bytesD _) (by simp only [List.length_nil]; omega) ?_; intro v9 W9 h9)
  obtain ⟨g9, c9, rfl⟩ := h9.shape
  rw [List.nil_append] at h9
  have ck9 : W9.cell? ⟨w.heap.size, 0, none⟩ = some (.int .i64 k) := by rw [cell_of_row _ _ 0 _ _ _ h9.row]; rfl
  have HS : Hid _ := h9
  clear h9 ck
  go_wp2_with fail
  refine (uses_any k W9).mono ?_
  rintro e w1 ⟨rfl, rfl⟩
  rw [HU.out.1, HU.out.2.1, HU.out.2.2]
  clear ck9 HU
  go_upto_region 6 with (at_builtin; refine wpList_append_byt rfl _ _ rfl _ _ rfl rfl (HS.out.alloc _) (one_sl _ 32 (by omega) (by omega)) (by simp only [List.length_cons, List.length_nil]; omega) ?_; intro v9 W9 h9)
  obtain ⟨L1, hL1⟩ : ∃ L, L = wordL k ++ [32] := ⟨_, rfl⟩
  have bL1 : L1.length ≤ 7 := by rw [hL1]; simp only [List.length_append, List.length_cons, List.length_nil]; omega
  rw [← hL1] at h9
  have HL1 : Hid (L1 = wordL k ++ [32]) := hL1
  clear hL1
  obtain ⟨g9, c9, rfl⟩ := h9.shape
  have HS : Hid _ := h9
  clear h9
  have ck : W9.cell? ⟨w.heap.size, 1, none⟩ = some (.int .i64 (m : Int)) := by rw [cell_of_row _ _ 1 _ _ _ HS.out.row]; rfl
  go_wp2_with fail
  refine (dec_any m (by omega) _).mono ?_
  rintro e w8 ⟨rfl, b8⟩
  have HS8 : Hid _ := HS.out.below b8
  clear b8 HS ck
  go_upto_region 7 with (at_builtin; refine wpList_append_txt rfl _ _ rfl _ rfl rfl HS8.out (decL_byteD _) (by omega) ?_; intro v9 W9 h9)
  clear HS8
  obtain ⟨L2, hL2⟩ : ∃ L, L = L1 ++ decL m := ⟨_, rfl⟩
  have bL2 : L2.length ≤ 14 := by rw [hL2]; simp only [List.length_append]; omega
  rw [← hL2] at h9
  have HL2 : Hid (L2 = L1 ++ decL m) := hL2
  clear hL2
  obtain ⟨g9, c9, rfl⟩ := h9.shape
  have HS : Hid _ := h9
  clear h9
  have ck : W9.cell? ⟨w.heap.size, 0, none⟩ = some (.int .i64 k) := by rw [cell_of_row _ _ 0 _ _ _ HS.out.row]; rfl
  go_wp2
  go_ret
  refine ⟨_, rfl, ?_, HS.out.bel⟩
  rw [HLL.out, ← HL1.out, ← HL2.out]
  exact HS.out.own
set_option maxHeartbeats 2000000 in
set_option maxRecDepth 100000 in
theorem alineA (k n p : Int) (m : Nat) (hm : m ≤ 1048576) (v : Value) (d : List Int) (hdl : d.length ≤ 2000) (w : World) (hd : Sl w v d) (hN : useN k = false) (hA : useA k = true) (hK : useK k = false) (h1 : ¬ k = 1) :
    Calls Tryd.prog 29 #[.agg (laA k n (m : Int) p v)] w fun e w' => ∃ v', e = .returned v' ∧ w'.ownsRow w.heap.size 5 1 v' (wordL k ++ [32] ++ decL m).length ((wordL k ++ [32] ++ decL m).map (Value.int .u8)) ∧ Below w.heap.size w w' := by
  obtain ⟨LL, hLL⟩ : ∃ L, L = wordL k ++ [32] ++ decL m := ⟨_, rfl⟩
  rw [← hLL]
  have HLL : Hid (LL = wordL k ++ [32] ++ decL m) := hLL
  clear hLL
  obtain ⟨a0, cp, rfl⟩ := hd.shapeT
  have hwl := wordL_lenD k
  have hml := decL_len (n := m) 6 (by omega)
  have HD : Hid (Sl w (.slice a0 d.length cp) d) := hd
  have HU : Hid (useN k = false ∧ useA k = true ∧ useK k = false) := ⟨hN, hA, hK⟩
  have hb1 : (k == 1) = false := ne_beq h1
  clear hd hN hA hK h1
  obtain ⟨W0, hW0⟩ : ∃ W0, w.alloc (.cells (laA k n (m : Int) p (.slice a0 d.length cp)) 24) = W0 := ⟨_, rfl⟩
  have r0 : W0.heap[w.heap.size]? = some (.cells (laA k n (m : Int) p (.slice a0 d.length cp)) 24) := by rw [← hW0]; exact heap_alloc_new _ _
  have bW : Below w.heap.size w W0 := by rw [← hW0]; exact (Below.refl _ _).alloc (Nat.le_refl _) _
  have HS : Hid (LnS w W0 (laA k n (m : Int) p (.slice a0 d.length cp)) (.slice none 0 0) []) := ⟨World.ownsRow_nil _ _ _ _, bW, r0⟩
  have ck : W0.cell? ⟨w.heap.size, 0, none⟩ = some (.int .i64 k) := by rw [cell_of_row _ _ 0 _ _ _ r0]; rfl
  clear r0 bW
  unfold laA at hW0 ⊢
  go_enter Tryd.func29, Tryd.ntmps29
  go_wp2_with fail
  clear hW0
  refine (actWord_any k W0).mono ?_
  rintro e w1 ⟨rfl, rfl⟩
  go_upto_region 3 with (at_builtin; refine wpList_append_txt rfl _ _ rfl _ rfl rfl HS.out (wordL_bytesD _) (by simp only [List.length_nil]; omega) ?_; intro v9 W9 h9)
  obtain ⟨g9, c9, rfl⟩ := h9.shape
  rw [List.nil_append] at h9
  have ck9 : W9.cell? ⟨w.heap.size, 0, none⟩ = some (.int .i64 k) := by rw [cell_of_row _ _ 0 _ _ _ h9.row]; rfl
  have HS : Hid _ := h9
  clear h9 ck
  go_wp2_with fail
  refine (uses_any k W9).mono ?_
  rintro e w1 ⟨rfl, rfl⟩
  rw [HU.out.1, HU.out.2.1, HU.out.2.2]
  clear ck9 HU
  go_upto_region 9 with (at_builtin; refine wpList_append_byt rfl _ _ rfl _ _ rfl rfl (HS.out.alloc _) (one_sl _ 32 (by omega) (by omega)) (by simp only [List.length_cons, List.length_nil]; omega) ?_; intro v9 W9 h9)
  obtain ⟨L1, hL1⟩ : ∃ L, L = wordL k ++ [32] := ⟨_, rfl⟩
  have bL1 : L1.length ≤ 7 := by rw [hL1]; simp only [List.length_append, List.length_cons, List.length_nil]; omega
  rw [← hL1] at h9
  have HL1 : Hid (L1 = wordL k ++ [32]) := hL1
  clear hL1
  obtain ⟨g9, c9, rfl⟩ := h9.shape
  have HS : Hid _ := h9
  clear h9
  have ck : W9.cell? ⟨w.heap.size, 2, none⟩ = some (.int .i64 (m : Int)) := by rw [cell_of_row _ _ 2 _ _ _ HS.out.row]; rfl
  go_wp2_with fail
  refine (dec_any m (by omega) _).mono ?_
  rintro e w8 ⟨rfl, b8⟩
  have HS8 : Hid _ := HS.out.below b8
  clear b8 HS ck
  go_upto_region 10 with (at_builtin; refine wpList_append_txt rfl _ _ rfl _ rfl rfl HS8.out (decL_byteD _) (by omega) ?_; intro v9 W9 h9)
  clear HS8
  obtain ⟨L2, hL2⟩ : ∃ L, L = L1 ++ decL m := ⟨_, rfl⟩
  have bL2 : L2.length ≤ 14 := by rw [hL2]; simp only [List.length_append]; omega
  rw [← hL2] at h9
  have HL2 : Hid (L2 = L1 ++ decL m) := hL2
  clear hL2
  obtain ⟨g9, c9, rfl⟩ := h9.shape
  have HS : Hid _ := h9
  clear h9
  have ck : W9.cell? ⟨w.heap.size, 0, none⟩ = some (.int .i64 k) := by rw [cell_of_row _ _ 0 _ _ _ HS.out.row]; rfl
  go_wp2
  go_ret
  refine ⟨_, rfl, ?_, HS.out.bel⟩
  rw [HLL.out, ← HL1.out, ← HL2.out]
  exact HS.out.own
set_option maxHeartbeats 2000000 in
set_option maxRecDepth 100000 in
theorem alineZ (k n a p : Int) (v : Value) (d : List Int) (hdl : d.length ≤ 2000) (w : World) (hd : Sl w v d) (hN : useN k = false) (hA : useA k = false) (hK : useK k = false) (h1 : ¬ k = 1) :
    Calls Tryd.prog 29 #[.agg (laA k n a p v)] w fun e w' => ∃ v', e = .returned v' ∧ w'.ownsRow w.heap.size 5 1 v' (wordL k).length ((wordL k).map (Value.int .u8)) ∧ Below w.heap.size w w' := by
  obtain ⟨LL, hLL⟩ : ∃ L, L = wordL k := ⟨_, rfl⟩
  rw [← hLL]
  have HLL : Hid (LL = wordL k) := hLL
  clear hLL
  obtain ⟨a0, cp, rfl⟩ := hd.shapeT
  have hwl := wordL_lenD k
  have HD : Hid (Sl w (.slice a0 d.length cp) d) := hd
  have HU : Hid (useN k = false ∧ useA k = false ∧ useK k = false) := ⟨hN, hA, hK⟩
  have hb1 : (k == 1) = false := ne_beq h1
  clear hd hN hA hK h1
  obtain ⟨W0, hW0⟩ : ∃ W0, w.alloc (.cells (laA k n a p (.slice a0 d.length cp)) 24) = W0 := ⟨_, rfl⟩
  have r0 : W0.heap[w.heap.size]? = some (.cells (laA k n a p (.slice a0 d.length cp)) 24) := by rw [← hW0]; exact heap_alloc_new _ _
  have bW : Below w.heap.size w W0 := by rw [← hW0]; exact (Below.refl _ _).alloc (Nat.le_refl _) _
  have HS : Hid (LnS w W0 (laA k n a p (.slice a0 d.length cp)) (.slice none 0 0) []) := ⟨World.ownsRow_nil _ _ _ _, bW, r0⟩
  have ck : W0.cell? ⟨w.heap.size, 0, none⟩ = some (.int .i64 k) := by rw [cell_of_row _ _ 0 _ _ _ r0]; rfl
  clear r0 bW
  unfold laA at hW0 ⊢
  go_enter Tryd.func29, Tryd.ntmps29
  go_wp2_with fail
  clear hW0
  refine (actWord_any k W0).mono ?_
  rintro e w1 ⟨rfl, rfl⟩
  go_upto_region 3 with (at_builtin; refine wpList_append_txt rfl _ _ rfl _ rfl rfl HS.out (wordL_bytesD _) (by simp only [List.length_nil]; omega) ?_; intro v9 W9 h9)
  obtain ⟨g9, c9, rfl⟩ := h9.shape
  rw [List.nil_append] at h9
  have ck9 : W9.cell? ⟨w.heap.size, 0, none⟩ = some (.int .i64 k) := by rw [cell_of_row _ _ 0 _ _ _ h9.row]; rfl
  have HS : Hid _ := h9
  clear h9 ck
  go_wp2_with fail
  refine (uses_any k W9).mono ?_
  rintro e w1 ⟨rfl, rfl⟩
  rw [HU.out.1, HU.out.2.1, HU.out.2.2]
  clear ck9 HU
  have ck : w1.cell? ⟨w.heap.size, 0, none⟩ = some (.int .i64 k) := by rw [cell_of_row _ _ 0 _ _ _ HS.out.row]; rfl
  go_wp2
  go_ret
  refine ⟨_, rfl, ?_, HS.out.bel⟩
  rw [HLL.out]
  exact HS.out.own
set_option maxHeartbeats 2000000 in
set_option maxRecDepth 100000 in
theorem alineC (k a : Int) (m : Nat) (hm : m ≤ 1048576) (q : Nat) (hq : q ≤ 1048576) (v : Value) (d : List Int) (hdl : d.length ≤ 2000) (w : World) (hd : Sl w v d) (hN : useN k = true) (hA : useA k = false) (hK : useK k = true) (h1 : ¬ k = 1) :
    Calls Tryd.prog 29 #[.agg (laA k (m : Int) a (q : Int) v)] w fun e w' => ∃ v', e = .returned v' ∧ w'.ownsRow w.heap.size 5 1 v' (wordL k ++ [32] ++ decL m ++ [32] ++ decL q).length ((wordL k ++ [32] ++ decL m ++ [32] ++ decL q).map (Value.int .u8)) ∧ Below w.heap.size w w' := by
  obtain ⟨LL, hLL⟩ : ∃ L, L = wordL k ++ [32] ++ decL m ++ [32] ++ decL q := ⟨_, rfl⟩
  rw [← hLL]
  have HLL : Hid (LL = wordL k ++ [32] ++ decL m ++ [32] ++ decL q) := hLL
  clear hLL
  obtain ⟨a0, cp, rfl⟩ := hd.shapeT
  have hwl := wordL_lenD k
  have hml := decL_len (n := m) 6 (by omega)
  have hql := decL_len (n := q) 6 (by omega)
  have HD : Hid (Sl w (.slice a0 d.length cp) d) := hd
  have HU : Hid (useN k = true ∧ useA k = false ∧ useK k = true) := ⟨hN, hA, hK⟩
  have hb1 : (k == 1) = false := ne_beq h1
  clear hd hN hA hK h1
  obtain ⟨W0, hW0⟩ : ∃ W0, w.alloc (.cells (laA k (m : Int) a (q : Int) (.slice a0 d.length cp)) 24) = W0 := ⟨_, rfl⟩
  have r0 : W0.heap[w.heap.size]? = some (.cells (laA k (m : Int) a (q : Int) (.slice a0 d.length cp)) 24) := by rw [← hW0]; exact heap_alloc_new _ _
  have bW : Below w.heap.size w W0 := by rw [← hW0]; exact (Below.refl _ _).alloc (Nat.le_refl _) _
  have HS : Hid (LnS w W0 (laA k (m : Int) a (q : Int) (.slice a0 d.length cp)) (.slice none 0 0) []) := ⟨World.ownsRow_nil _ _ _ _, bW, r0⟩
  have ck : W0.cell? ⟨w.heap.size, 0, none⟩ = some (.int .i64 k) := by rw [cell_of_row _ _ 0 _ _ _ r0]; rfl
  clear r0 bW
  unfold laA at hW0 ⊢
  go_enter Tryd.func29, Tryd.ntmps29
  go_wp2_with fail
  clear hW0
  refine (actWord_any k W0).mono ?_
  rintro e w1 ⟨rfl, rfl⟩
  go_upto_region 3 with (at_builtin; refine wpList_append_txt rfl _ _ rfl _ rfl rfl HS.out (wordL_bytesD _) (by simp only [List.length_nil]; omega) ?_; intro v9 W9 h9)
  obtain ⟨g9, c9, rfl⟩ := h9.shape
  rw [List.nil_append] at h9
  have ck9 : W9.cell? ⟨w.heap.size, 0, none⟩ = some (.int .i64 k) := by rw [cell_of_row _ _ 0 _ _ _ h9.row]; rfl
  have HS : Hid _ := h9
  clear h9 ck
  go_wp2_with fail
  refine (uses_any k W9).mono ?_
  rintro e w1 ⟨rfl, rfl⟩
  rw [HU.out.1, HU.out.2.1, HU.out.2.2]
  clear ck9 HU
  go_upto_region 6 with (at_builtin; refine wpList_append_byt rfl _ _ rfl _ _ rfl rfl (HS.out.alloc _) (one_sl _ 32 (by omega) (by omega)) (by simp only [List.length_cons, List.length_nil]; omega) ?_; intro v9 W9 h9)
  obtain ⟨L1, hL1⟩ : ∃ L, L = wordL k ++ [32] := ⟨_, rfl⟩
  have bL1 : L1.length ≤ 7 := by rw [hL1]; simp only [List.length_append, List.length_cons, List.length_nil]; omega
  rw [← hL1] at h9
  have HL1 : Hid (L1 = wordL k ++ [32]) := hL1
  clear hL1
  obtain ⟨g9, c9, rfl⟩ := h9.shape
  have HS : Hid _ := h9
  clear h9
  have ck : W9.cell? ⟨w.heap.size, 1, none⟩ = some (.int .i64 (m : Int)) := by rw [cell_of_row _ _ 1 _ _ _ HS.out.row]; rfl
  go_wp2_with fail
  refine (dec_any m (by omega) _).mono ?_
  rintro e w8 ⟨rfl, b8⟩
  have HS8 : Hid _ := HS.out.below b8
  clear b8 HS ck
  go_upto_region 7 with (at_builtin; refine wpList_append_txt rfl _ _ rfl _ rfl rfl HS8.out (decL_byteD _) (by omega) ?_; intro v9 W9 h9)
  clear HS8
  obtain ⟨L2, hL2⟩ : ∃ L, L = L1 ++ decL m := ⟨_, rfl⟩
  have bL2 : L2.length ≤ 14 := by rw [hL2]; simp only [List.length_append]; omega
  rw [← hL2] at h9
  have HL2 : Hid (L2 = L1 ++ decL m) := hL2
  clear hL2
  obtain ⟨g9, c9, rfl⟩ := h9.shape
  have HS : Hid _ := h9
  clear h9
  go_upto_region 12 with (at_builtin; refine wpList_append_byt rfl _ _ rfl _ _ rfl rfl (HS.out.alloc _) (one_sl _ 32 (by omega) (by omega)) (by simp only [List.length_cons, List.length_nil]; omega) ?_; intro v9 W9 h9)
  obtain ⟨L3, hL3⟩ : ∃ L, L = L2 ++ [32] := ⟨_, rfl⟩
  have bL3 : L3.length ≤ 15 := by rw [hL3]; simp only [List.length_append, List.length_cons, List.length_nil]; omega
  rw [← hL3] at h9
  have HL3 : Hid (L3 = L2 ++ [32]) := hL3
  clear hL3
  obtain ⟨g9, c9, rfl⟩ := h9.shape
  have HS : Hid _ := h9
  clear h9
  have ck : W9.cell? ⟨w.heap.size, 3, none⟩ = some (.int .i64 (q : Int)) := by rw [cell_of_row _ _ 3 _ _ _ HS.out.row]; rfl
  go_wp2_with fail
  refine (dec_any q (by omega) _).mono ?_
  rintro e w8 ⟨rfl, b8⟩
  have HS8 : Hid _ := HS.out.below b8
  clear b8 HS ck
  go_upto_region 13 with (at_builtin; refine wpList_append_txt rfl _ _ rfl _ rfl rfl HS8.out (decL_byteD _) (by omega) ?_; intro v9 W9 h9)
  clear HS8
  obtain ⟨L4, hL4⟩ : ∃ L, L = L3 ++ decL q := ⟨_, rfl⟩
  have bL4 : L4.length ≤ 22 := by rw [hL4]; simp only [List.length_append]; omega
  rw [← hL4] at h9
  have HL4 : Hid (L4 = L3 ++ decL q) := hL4
  clear hL4
  obtain ⟨g9, c9, rfl⟩ := h9.shape
  have HS : Hid _ := h9
  clear h9
  have ck : W9.cell? ⟨w.heap.size, 0, none⟩ = some (.int .i64 k) := by rw [cell_of_row _ _ 0 _ _ _ HS.out.row]; rfl
  go_wp2
  go_ret
  refine ⟨_, rfl, ?_, HS.out.bel⟩
  rw [HLL.out, ← HL1.out, ← HL2.out, ← HL3.out, ← HL4.out]
  exact HS.out.own
/-- the document's line of an act that may be -/
theorem actLine_any (k n a p : Int) (v : Value) (d : List Int) (w : World) (hd : Sl w v d) (ho : LacOk ⟨k, n, a, p, d⟩) :
    Calls Tryd.prog 29 #[.agg (laA k n a p v)] w fun e w' => ∃ v', e = .returned v' ∧ w'.ownsRow w.heap.size 5 1 v' (lineL ⟨k, n, a, p, d⟩).length ((lineL ⟨k, n, a, p, d⟩).map (Value.int .u8)) ∧ Below w.heap.size w w' := by
  obtain ⟨hk, hn, ha, hp, hdl, n0, a0, p0, d0⟩ := ho
  simp only at hk hn ha hp hdl n0 a0 p0 d0
  rcases kinds hk with rfl | rfl | rfl | rfl | rfl | rfl | rfl | rfl | rfl
  · obtain ⟨m, rfl⟩ : ∃ m : Nat, n = (m : Int) := ⟨n.toNat, by have := hn (by decide); omega⟩
    have h := alineS 1 a p m (by have := hn (by decide); omega) v d hdl w hd (by decide) (by decide) (by decide) (by decide)
    simpa [lineL, useN, useA, useK] using h
  · obtain ⟨m, rfl⟩ : ∃ m : Nat, n = (m : Int) := ⟨n.toNat, by have := hn (by decide); omega⟩
    have h := alineN 2 a p m (by have := hn (by decide); omega) v d hdl w hd (by decide) (by decide) (by decide) (by decide)
    simpa [lineL, useN, useA, useK] using h
  · obtain ⟨m, rfl⟩ : ∃ m : Nat, n = (m : Int) := ⟨n.toNat, by have := hn (by decide); omega⟩
    have h := alineN 3 a p m (by have := hn (by decide); omega) v d hdl w hd (by decide) (by decide) (by decide) (by decide)
    simpa [lineL, useN, useA, useK] using h
  · obtain ⟨m, rfl⟩ : ∃ m : Nat, a = (m : Int) := ⟨a.toNat, by have := ha (by decide); omega⟩
    have h := alineA 4 n p m (by have := ha (by decide); omega) v d hdl w hd (by decide) (by decide) (by decide) (by decide)
    simpa [lineL, useN, useA, useK] using h
  · obtain ⟨m, rfl⟩ : ∃ m : Nat, a = (m : Int) := ⟨a.toNat, by have := ha (by decide); omega⟩
    have h := alineA 5 n p m (by have := ha (by decide); omega) v d hdl w hd (by decide) (by decide) (by decide) (by decide)
    simpa [lineL, useN, useA, useK] using h
  · obtain ⟨m, rfl⟩ : ∃ m : Nat, a = (m : Int) := ⟨a.toNat, by have := ha (by decide); omega⟩
    have h := alineA 6 n p m (by have := ha (by decide); omega) v d hdl w hd (by decide) (by decide) (by decide) (by decide)
    simpa [lineL, useN, useA, useK] using h
  · have h := alineZ 7 n a p v d hdl w hd (by decide) (by decide) (by decide) (by decide)
    simpa [lineL, useN, useA, useK] using h
  · obtain ⟨m, rfl⟩ : ∃ m : Nat, n = (m : Int) := ⟨n.toNat, by have := hn (by decide); omega⟩
    obtain ⟨q, rfl⟩ : ∃ q : Nat, p = (q : Int) := ⟨p.toNat, by have := hp (by decide); omega⟩
    have h := alineC 8 a m (by have := hn (by decide); omega) q (by have := hp (by decide); omega) v d hdl w hd (by decide) (by decide) (by decide) (by decide)
    simpa [lineL, useN, useA, useK] using h
  · obtain ⟨m, rfl⟩ : ∃ m : Nat, n = (m : Int) := ⟨n.toNat, by have := hn (by decide); omega⟩
    have h := alineN 9 a p m (by have := hn (by decide); omega) v d hdl w hd (by decide) (by decide) (by decide) (by decide)
    simpa [lineL, useN, useA, useK] using h
end Go.Proofs.YtlcbebiocmmbaaaDoor
