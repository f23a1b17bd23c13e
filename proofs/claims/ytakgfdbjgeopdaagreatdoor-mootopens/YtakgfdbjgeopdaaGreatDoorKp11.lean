/-
  Rows, slices of bytes that are made and copied, variables that are laid, and regions that end alike. No function of the program is named here.
-/
import Derived.Laws.CopyRow
import Derived.Deep.Cut
import Derived.Deep.MidRow
import Derived.Test.YtakgfdbjgeopdaaGreatDoorKp2
import Derived.Test.YtakgfdbjgeopdaaGreatDoorKp10
namespace Go.Proofs.YtakgfdbjgeopdaaGreatDoor
open Go.RowKit
set_option linter.unusedVariables false

/-- for a look at what a goal is, ahead of a law -/
theorem tpLook {P : Program} {ops : Array Oper} {Q : Exit → Act → World → Prop} {l : List Oper} {a : Act} {w : World} (h : wpList P ops Q l a w) : wpList P ops Q l a w := h
theorem tBelow_row {B : Nat} {a w : World} (h : Below B a w) {g : Nat} (hg : B ≤ g) (cs : Array Value) : Below B a (w.setRow g cs) :=
  h.trans ⟨rfl, rfl, rfl, by simp, fun k hk => setRow_other w g k cs (by omega)⟩
theorem tOwns_base {w : World} {b b' e k8 : Nat} {v : Value} {n : Nat} {xs : List Value} (h : w.ownsRow b e k8 v n xs) (hb : b' ≤ b) : w.ownsRow b' e k8 v n xs := by
  refine ⟨h.1, ?_⟩
  rcases h.2 with h2 | ⟨g, cap, cur, hv, hbg, hr⟩
  · exact .inl h2
  · exact .inr ⟨g, cap, cur, hv, Nat.le_trans hb hbg, hr⟩
theorem tOwns_keep {w w' : World} {base e k8 : Nat} {v : Value} {n : Nat} {xs : List Value} (h : w.ownsRow base e k8 v n xs) (hk : ∀ k, v.ownBlock = some k → w'.heap[k]? = w.heap[k]?) : w'.ownsRow base e k8 v n xs := by
  refine ⟨h.1, ?_⟩
  rcases h.2 with h2 | ⟨g, cap, cur, hv, hb, hg, hr⟩
  · exact .inl h2
  · exact .inr ⟨g, cap, cur, hv, hb, (hk g (by rw [hv]; rfl)).trans hg, hr⟩
theorem tRow1 {P : Program} {fn : Func} {p : Tmp} {ty : TypeId} (h : fn.results = #[.cell p ty]) (tmps : Array Value) (w : World) (g : Nat) (t : TypeId) (cs : Array Value) (fr : Nat × Nat) (d : TypeDesc)
    (hp : tmps.getD p undef = .pointer (some ⟨g, 0, none⟩)) (hg : w.heap[g]? = some (.cells cs t fr))
    (hu : P.underlying ty = some d) (hd : (match d with | .struct _ | .array _ _ => true | _ => false) = true) (hi : (P.info? ty).map (·.size) = some cs.size) :
    (results fn tmps).run P w = .ok (.agg cs) w := by
  have hp' : tmps[p]?.getD undef = .pointer (some ⟨g, 0, none⟩) := by simpa using hp
  simp [results, h, hp', asAddr, run_loadVar_row w g t ty cs fr d hg hu hd hi]
theorem tRow2 {P : Program} {fn : Func} {p u : Tmp} {ty : TypeId} (h : fn.results = #[.cell p ty, .tmp u]) (tmps : Array Value) (w : World) (g : Nat) (t : TypeId) (cs : Array Value) (fr : Nat × Nat) (d : TypeDesc)
    (hp : tmps.getD p undef = .pointer (some ⟨g, 0, none⟩)) (hg : w.heap[g]? = some (.cells cs t fr))
    (hu : P.underlying ty = some d) (hd : (match d with | .struct _ | .array _ _ => true | _ => false) = true) (hi : (P.info? ty).map (·.size) = some cs.size) :
    (results fn tmps).run P w = .ok (.tuple #[.agg cs, tmps.getD u undef]) w := by
  have hp' : tmps[p]?.getD undef = .pointer (some ⟨g, 0, none⟩) := by simpa using hp
  simp [results, h, hp', asAddr, run_loadVar_row w g t ty cs fr d hg hu hd hi]
theorem Sl.shapeT {w : World} {v : Value} {l : List Int} (h : Sl w v l) : ∃ a cap, v = .slice a l.length cap := by
  obtain ⟨⟨a, cap, e, _⟩, _, _⟩ := h
  exact ⟨a, cap, e⟩
theorem Sl.cellsT {w : World} {ad : Addr} {n cap : Nat} {m : List Int} (h : Sl w (.slice (some ad) n cap) m) : ∀ j u, (m.map (Value.int .u8))[j]? = some u → w.cell? (ad.add j) = some u := by
  intro j u hj
  obtain ⟨⟨a, cp, e, hc, hn, h1⟩, _⟩ := h
  simp only [Value.slice.injEq] at e
  obtain ⟨rfl, rfl, rfl⟩ := e
  rcases h1 with rfl | ⟨b, off, hab, _, hcell⟩
  · simp at hj
  · obtain rfl : ad = ⟨b, off, none⟩ := by simpa using hab
    have hjl : j < m.length := by
      have := (List.getElem?_eq_some_iff.1 hj).1
      simpa using this
    have hadd : (⟨b, off, none⟩ : Addr).add j = ⟨b, off + j, none⟩ := by unfold Addr.add; split <;> simp_all
    rw [hadd, hcell j hjl]
    simp [List.getElem?_eq_getElem hjl] at hj
    rw [getD_at hjl, hj]
/-- bytes copied into a row of the call's own, which is no longer than they are -/
theorem run_copy_sl {P : Program} (w : World) (base dT sT ty e : Nat) (hu : P.underlying dT = some (.slice e)) (hs : (P.info? e).map (·.size) = some 1) (g n : Nat) (xs : List Value) (hown : w.ownsRow base e 1 (.slice (some ⟨g, 0, none⟩) n n) n xs) (u : Value) (m : List Int) (hm : n ≤ m.length) (hv : Sl w u m) :
    ∃ w', (Builtin.copy_ #[dT, sT] ty #[.slice (some ⟨g, 0, none⟩) n n, u]).run P w = .ok (goInt n) w' ∧ w'.ownsRow base e 1 (.slice (some ⟨g, 0, none⟩) n n) n ((m.take n).map (Value.int .u8)) ∧ Below g w w' := by
  obtain ⟨i, hq, hi⟩ : ∃ i, P.info? e = some i ∧ i.size = 1 := by
    cases hq : P.info? e with
    | none => rw [hq] at hs; cases hs
    | some i => rw [hq] at hs; exact ⟨i, rfl, by simpa using hs⟩
  rcases hown.2 with ⟨h0, _⟩ | ⟨g', cap, cur, hvv, hbg, hg, hnc, hcm, hcs, ht⟩
  · cases h0
  · simp only [Value.slice.injEq, Option.some.injEq, Addr.mk.injEq] at hvv
    obtain ⟨⟨rfl, _⟩, _, rfl⟩ := hvv
    have hv2 := hv
    obtain ⟨⟨a, cp, rfl, hc, hn, h1⟩, _⟩ := hv
    have hmin : Nat.min m.length n = n := Nat.min_eq_right hm
    cases a with
    | none =>
      have hc0 := hn rfl
      subst hc0
      have hm0 : n = 0 := by omega
      subst hm0
      refine ⟨w, ?_, ⟨by simp, .inr ⟨g, 0, cur, rfl, hbg, hg, hnc, hcm, hcs, by simp⟩⟩, Below.refl _ _⟩
      simp [Builtin.copy_, run_underlying hu, Builtin.lenOf, Builtin.firstCells, sizeOf, typeInfo, hq, storeCells]
    | some ad =>
      have htl : ((m.take n).map (Value.int .u8)).length = n := by simp; omega
      have hl := run_firstCells_some (P := P) w 1 n ad m.length cp ((m.take n).map (Value.int .u8)) (by rw [htl]; omega) (fun j v hj => hv2.cellsT j v (by
        rw [List.map_take, List.getElem?_take] at hj
        split at hj
        · exact hj
        · cases hj))
      have hst := run_storeCells_at P g 0 e ((m.take n).map (Value.int .u8)) 0 cur w hg (by rw [htl]; omega) (ints_one (m.take n))
      have hfull : (cur.toList.take (0 + 0) ++ (m.take n).map (Value.int .u8) ++ cur.toList.drop (0 + 0 + ((m.take n).map (Value.int .u8)).length)) = (m.take n).map (Value.int .u8) := by
        rw [htl, List.drop_eq_nil_of_le (by rw [Array.length_toList]; omega)]
        simp
      rw [hfull] at hst
      refine ⟨w.setRow g ((m.take n).map (Value.int .u8)).toArray, ?_, ⟨by rw [htl]; omega, .inr ⟨g, n, ((m.take n).map (Value.int .u8)).toArray, rfl, hbg, setRow_heap w g cur _ e _ hg, Nat.le_refl _, hcm, by rw [List.size_toArray, htl]; omega, ?_⟩⟩, ?_⟩
      · simp [-List.map_take, Builtin.copy_, run_underlying hu, Builtin.lenOf, sizeOf, typeInfo, hq, hi, hmin, hl, hst]
      · rw [List.take_of_length_le (by show ((m.take n).map (Value.int .u8)).length ≤ _; rw [htl]; omega)]
      · exact ⟨rfl, rfl, rfl, by simp, fun k hk => setRow_other w g k _ (by omega)⟩
theorem wpList_copy_sl {P : Program} (w : World) {ops : Array Oper} {rest : List Oper} {o : Oper} {a : Act} {Q : Exit → Act → World → Prop} (hgd : o.guard = none) (d s : Operand) (dT sT : TypeId)
    (ho : o.op = .call { callee := .builtin .copy, args := #[d, s], argTypes := #[dT, sT] })
    (base e : Nat) (hu : P.underlying dT = some (.slice e)) (hs : (P.info? e).map (·.size) = some 1) (g n : Nat) (xs : List Value) (hd : a.eval d = .slice (some ⟨g, 0, none⟩) n n) (hown : w.ownsRow base e 1 (.slice (some ⟨g, 0, none⟩) n n) n xs) (u : Value) (hu' : a.eval s = u) (m : List Int) (hm : n ≤ m.length) (hv : Sl w u m) (t : List Int) (htm : t = m.take n)
    (h : ∀ w', w'.ownsRow base e 1 (.slice (some ⟨g, 0, none⟩) n n) n (t.map (Value.int .u8)) → Below g w w' → wpList P ops Q rest (a.put o.dst (goInt n)) w') : wpList P ops Q (o :: rest) a w := by
  subst htm
  refine wpList_plain hgd fun K hK => ?_
  obtain ⟨w', hrun, r1, r2⟩ := run_copy_sl (P := P) w base dT sT o.type e hu hs g n xs hown u m hm hv
  unfold Oper.wp execOp
  simp only [ho, resolve, invoke, builtin, Sem.run_bind, Sem.run_pure, Result.andThen_ok, List.map_toArray, List.map_cons, List.map_nil, hd, hu', hrun]
  exact hK _ _ (h w' r1 r2)
/-- bytes made, so many -/
theorem wpList_make_sl {P : Program} (w : World) {ops : Array Oper} {rest : List Oper} {o : Oper} {a : Act} {Q : Exit → Act → World → Prop}
    (hg : o.guard = none) (l c : Operand) (t : TypeId) (hop : o.op = Op.makeSlice t l c) (base : Nat) (e : TypeId) (h1 : P.underlying t = some (.slice e)) (hinfo : (P.info? e).map (fun i => (i.zero, i.size, i.bytes)) = some (some (.int .u8 0), 1, 1))
    (n : Nat) (hl : a.eval l = .int .i64 (n : Int)) (hc : a.eval c = .int .i64 (n : Int)) (hn : n ≤ 140737488351232) (b4 : base ≤ w.heap.size)
    (hK : ∀ w', Hid (∃ xs, w'.ownsRow base e 1 (.slice (some ⟨w.heap.size, 0, none⟩) n n) n xs) → w.grownBy w' none → wpList P ops Q rest (a.put o.dst (.slice (some ⟨w.heap.size, 0, none⟩) n n)) w') : wpList P ops Q (o :: rest) a w := by
  obtain ⟨i0, hi, hz0, hz1, hz2⟩ := info_parts hinfo
  refine wpList_make_full w hg l c t hop base e i0 (.int .u8 0) 1 h1 hi hz0 hz1 _ _ _ _ n hl hc rfl rfl (by rw [hz2]; omega) (by unfold maxLen; omega) b4 (fun w' o1 g1 => hK w' ⟨_, o1⟩ g1)
/-- variables that are laid at a call's beginning -/
theorem t_alloc1_0 (w : World) (o1 : Obj) : (w.alloc o1).heap[w.heap.size]? = some o1 := heap_alloc_new w o1
theorem t_allocB1 (w : World) (o1 : Obj) : Below w.heap.size w (w.alloc o1) := (Below.refl _ _).alloc (Nat.le_refl _) _
theorem t_alloc2_0 (w : World) (o1 o2 : Obj) : ((w.alloc o1).alloc o2).heap[w.heap.size]? = some o1 := heap_alloc2_old w o1 o2
theorem t_alloc2_1 (w : World) (o1 o2 : Obj) : ((w.alloc o1).alloc o2).heap[w.heap.size + 1]? = some o2 := heap_alloc2_new w o1 o2
theorem t_allocB2 (w : World) (o1 o2 : Obj) : Below w.heap.size w ((w.alloc o1).alloc o2) := ((Below.refl _ _).alloc (Nat.le_refl _) _).alloc (by simp) _
theorem t_alloc3_0 (w : World) (o1 o2 o3 : Obj) : (((w.alloc o1).alloc o2).alloc o3).heap[w.heap.size]? = some o1 := by
  rw [heap_alloc_old _ _ (by simp; omega)]; exact heap_alloc2_old w o1 o2
theorem t_alloc3_1 (w : World) (o1 o2 o3 : Obj) : (((w.alloc o1).alloc o2).alloc o3).heap[w.heap.size + 1]? = some o2 := by
  rw [heap_alloc_old _ _ (by simp)]; exact heap_alloc2_new w o1 o2
theorem t_alloc3_2 (w : World) (o1 o2 o3 : Obj) : (((w.alloc o1).alloc o2).alloc o3).heap[w.heap.size + 2]? = some o3 := by
  have := heap_alloc_new ((w.alloc o1).alloc o2) o3
  simpa using this
theorem t_allocB3 (w : World) (o1 o2 o3 : Obj) : Below w.heap.size w (((w.alloc o1).alloc o2).alloc o3) := (((Below.refl _ _).alloc (Nat.le_refl _) _).alloc (by simp) _).alloc (by simp; omega) _
theorem tOwns_shape {w : World} {base e k8 : Nat} {v : Value} {n : Nat} {xs : List Value} (h : w.ownsRow base e k8 v n xs) : ∃ g c, v = .slice g n c := by
  rcases h.2 with ⟨rfl, h0⟩ | ⟨g, cap, cur, hv, _⟩
  · exact ⟨none, 0, by rw [h0]⟩
  · exact ⟨_, _, hv⟩
theorem tRange {B : Nat} {w w' : World} (h : Below B w w') {b o : Nat} {cs : List Value} (hb : b < B) (hr : w.rangeAt b o cs) : w'.rangeAt b o cs :=
  fun j v hv => (h.cell (p := ⟨b, o + j, none⟩) hb).trans (hr j v hv)
/-- regions that end alike in whatever order they are walked -/
theorem t_merge0 {P : Program} {id : Nat} {ops : Array Oper} {K : Act → World → Prop} {Q : Exit → Act → World → Prop} {a : Act} {w : World} (R : World → Prop) {A : Act}
    (hreg : ∀ K' : Act → World → Prop, Hid (∀ W2, R W2 → K' A W2) → (Code.region id ops true).wp P (Exit.then K' Q) a w) (hrest : ∀ W2, R W2 → K A W2) : (Code.region id ops true).wp P (Exit.then K Q) a w := hreg K hrest
theorem t_mergeA {P : Program} {id : Nat} {ops : Array Oper} {K : Act → World → Prop} {Q : Exit → Act → World → Prop} {a : Act} {w : World} (R : Option Addr → Nat → World → Prop) {A : Option Addr → Nat → Act}
    (hreg : ∀ K' : Act → World → Prop, Hid (∀ g c W2, R g c W2 → K' (A g c) W2) → (Code.region id ops true).wp P (Exit.then K' Q) a w) (hrest : ∀ g c W2, R g c W2 → K (A g c) W2) : (Code.region id ops true).wp P (Exit.then K Q) a w := hreg K hrest
theorem tOne_range {w : World} {g : Nat} {cs : List Value} {t : TypeId} {fr : Nat × Nat} (h : w.heap[g]? = some (.cells cs.toArray t fr)) : w.rangeAt g 0 cs := fun j u hj => by
  rw [cell_of_row _ _ (0 + j) _ _ _ h]
  simpa using hj
/-- a row of other cells is set: a row of bytes of its own stays -/
theorem tOwns_ne {w : World} {base k8 n : Nat} {v : Value} {xs : List Value} (h : w.ownsRow base 5 k8 v n xs) {g : Nat} {cs : Array Value} {t : TypeId} {fr : Nat × Nat} (hg : w.heap[g]? = some (.cells cs t fr)) (ht : t ≠ 5) : ∀ k, v.ownBlock = some k → k ≠ g := by
  intro k hk e
  rcases h.2 with ⟨h1, _⟩ | ⟨q, cap, cur, h1, _, h2, _⟩
  · rw [h1] at hk; cases hk
  · rw [h1] at hk
    have hk' : q = k := by simpa [Value.ownBlock] using hk
    rw [hk', e, hg] at h2
    simp only [Option.some.injEq, Obj.cells.injEq] at h2
    exact ht h2.2.1
theorem tOwns_row {w : World} {base k8 n : Nat} {v : Value} {xs : List Value} (h : w.ownsRow base 5 k8 v n xs) {g : Nat} {cs : Array Value} {t : TypeId} {fr : Nat × Nat} (hg : w.heap[g]? = some (.cells cs t fr)) (ht : t ≠ 5) (cs' : Array Value) : (w.setRow g cs').ownsRow base 5 k8 v n xs :=
  tOwns_keep h (fun k hk => setRow_other _ _ _ _ (tOwns_ne h hg ht k hk))
theorem tOwns_cell {w : World} {base k8 n : Nat} {v : Value} {xs : List Value} (h : w.ownsRow base 5 k8 v n xs) {g : Nat} {cs : Array Value} {t : TypeId} {fr : Nat × Nat} (hg : w.heap[g]? = some (.cells cs t fr)) (ht : t ≠ 5) (j : Nat) (u : Value) : (w.setCell ⟨g, j, none⟩ u).ownsRow base 5 k8 v n xs :=
  tOwns_keep h (fun k hk => Below.heap_setCell w ⟨g, j, none⟩ u k (tOwns_ne h hg ht k hk))
theorem byte1 : (Tryz.prog.info? 5).map (·.size) = some 1 := by kernel_rfl
end Go.Proofs.YtakgfdbjgeopdaaGreatDoor
