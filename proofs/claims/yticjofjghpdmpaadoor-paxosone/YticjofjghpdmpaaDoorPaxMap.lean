/-
  Votes that are counted in a map: what it holds, a look-up, and one more.
-/
import Derived.Test.YticjofjghpdmpaaDoorPaxEq
import Derived.ChangeMaps5
namespace Go.Proofs.YticjofjghpdmpaaDoor
open Go.RowKit
set_option linter.unusedVariables false

set_option maxRecDepth 100000 in
theorem equal_vt (u v : Vt) (w : World) : (Op.equal 39 (.agg (vtA u)) (.agg (vtA v))).run Tryd.prog w = .ok (decide (u = v)) w := by
  have h1 := eql_vt u.slot u.b.r u.b.n u.w.k u.w.c u.w.s u.w.n u.w.v v.slot v.b.r v.b.n v.w.k v.w.c v.w.s v.w.n v.w.v w
  have h2 : decide (u.slot = v.slot ∧ u.b.r = v.b.r ∧ u.b.n = v.b.n ∧ u.w.k = v.w.k ∧ u.w.c = v.w.c ∧ u.w.s = v.w.s ∧ u.w.n = v.w.n ∧ u.w.v = v.w.v) = decide (u = v) := by
    apply decide_eq_decide.2
    constructor
    · rintro ⟨a1, a2, a3, a4, a5, a6, a7, a8⟩
      exact (Vt.eq_iff u v).1 ⟨a1, (Bal.eq_iff _ _).1 ⟨a2, a3⟩, (Cmd.eq_iff _ _).1 ⟨a4, a5, a6, a7, a8⟩⟩
    · rintro rfl
      exact ⟨rfl, rfl, rfl, rfl, rfl, rfl, rfl, rfl⟩
  rw [h2] at h1
  rw [run_eql_struct] at h1
  show (Op.equalIn 10000 _ _ _).run _ _ = _
  simp only [vtA, vtC]
  cases hr : (Op.equalIn 10000 39 (.agg #[.int .i64 u.slot, .int .i64 u.b.r, .int .i64 u.b.n, .int .i64 u.w.k, .int .i64 u.w.c, .int .i64 u.w.s, .int .i64 u.w.n, .int .i64 u.w.v]) (.agg #[.int .i64 v.slot, .int .i64 v.b.r, .int .i64 v.b.n, .int .i64 v.w.k, .int .i64 v.w.c, .int .i64 v.w.s, .int .i64 v.w.n, .int .i64 v.w.v])).run Tryd.prog w with
  | ok b w' => rw [hr] at h1; simp [Result.andThen] at h1; rw [h1.1, h1.2]
  | _ => rw [hr] at h1; simp [Result.andThen] at h1
/-- an entry: a vote, how often, and when it came -/
abbrev Cnt := Vt × Nat × Nat
def mkE (x : Cnt) : MapEntry := { key := .agg (vtA x.1), val := .int .i64 (x.2.1 : Int), born := x.2.2 }
def fndV (v : Vt) : List Cnt → Nat → Option (Nat × Value)
  | [], _ => none
  | x :: c, i => if v = x.1 then some (i, .int .i64 (x.2.1 : Int)) else fndV v c (i + 1)
theorem asking_vt (v : Vt) (w : World) : ∀ (c : List Cnt) (i : Nat), (Instr.findAsking 39 (.agg (vtA v)) (c.map mkE) i).run Tryd.prog w = .ok (fndV v c i) w
  | [], i => by simp [Instr.findAsking, fndV]
  | x :: c, i => by
    have h := equal_vt v x.1 w
    rw [List.map_cons, Instr.findAsking, Sem.run_bind]
    show ((Op.equal 39 (.agg (vtA v)) (.agg (vtA x.1))).run _ w).andThen _ = _
    rw [h, Result.andThen_ok, fndV]
    by_cases e : v = x.1
    · rw [decide_eq_true e, if_pos e]; simp [mkE]
    · rw [decide_eq_false e, if_neg e]; simpa using asking_vt v w c (i + 1)
theorem find_vt (v : Vt) (w : World) (c : List Cnt) : (Instr.findKey 39 (.agg (vtA v)) (c.map mkE)).run Tryd.prog w = .ok (fndV v c 0) w := by
  rw [Instr.findKey, Sem.run_bind, run_underlying Tryd.underlying39 w, Result.andThen_ok]
  cases c with
  | nil => simp [Instr.findNow, fndV]
  | cons x c =>
    show Sem.run _ (match (none : Option (Option (Nat × Value))) with | some r => pure r | none => Instr.findAsking 39 (.agg (vtA v)) ((x :: c).map mkE)) w = _
    exact asking_vt v w (x :: c) 0
set_option maxRecDepth 100000 in
theorem check_vt (em : Bool) (v : Vt) (w : World) : (Instr.checkKey em 10000 39 (.agg (vtA v))).run Tryd.prog w = .ok () w := by
  obtain ⟨s, ⟨r, n⟩, ⟨k, c, q, m, x⟩⟩ := v
  kernel_rfl
/-- how often -/
def cntV (c : List Cnt) (v : Vt) : Nat := match c.find? (fun x => decide (v = x.1)) with | some x => x.2.1 | none => 0
theorem fndV_cnt (v : Vt) : ∀ (c : List Cnt) (i : Nat), (fndV v c i = none ∧ cntV c v = 0 ∧ ∀ x ∈ c, v ≠ x.1) ∨ ∃ a x b, c = a ++ x :: b ∧ x.1 = v ∧ (∀ y ∈ a, v ≠ y.1) ∧ fndV v c i = some (i + a.length, .int .i64 (x.2.1 : Int)) ∧ cntV c v = x.2.1
  | [], i => .inl ⟨rfl, rfl, fun x hx => by cases hx⟩
  | x :: c, i => by
    by_cases e : v = x.1
    · refine .inr ⟨[], x, c, rfl, e.symm, fun y hy => (List.not_mem_nil hy).elim, ?_, ?_⟩
      · rw [fndV, if_pos e]; simp
      · simp [cntV, e]
    · rcases fndV_cnt v c (i + 1) with ⟨h1, h2, h3⟩ | ⟨a, y, b, rfl, hy, h3, h4, h5⟩
      · refine .inl ⟨by rw [fndV, if_neg e, h1], ?_, fun y hy => ?_⟩
        · rw [← h2]; simp [cntV, e]
        · rcases List.mem_cons.1 hy with rfl | hy
          · exact e
          · exact h3 y hy
      · refine .inr ⟨x :: a, y, b, rfl, hy, fun z hz => ?_, ?_, ?_⟩
        · rcases List.mem_cons.1 hz with rfl | hz
          · exact e
          · exact h3 z hz
        · rw [fndV, if_neg e, h4]
          simp; omega
        · rw [← h5]; simp [cntV, e]
/-- a map of counted votes -/
structure CMap (w : World) (b : Nat) (c : List Cnt) : Prop where
  ex : ∃ clock, w.heap[b]? = some (.map (c.map mkE).toArray clock) ∧ ∀ x ∈ c, x.2.2 < clock
  dis : c.Pairwise fun x y => x.2.2 ≠ y.2.2
theorem CMap.lt {w : World} {b : Nat} {c : List Cnt} (h : CMap w b c) : b < w.heap.size := by
  obtain ⟨⟨k, hb, _⟩, _⟩ := h
  exact (Array.getElem?_eq_some_iff.1 hb).1
theorem CMap.keep {w w' : World} {b : Nat} {c : List Cnt} (h : CMap w b c) (hb : w'.heap[b]? = w.heap[b]?) : CMap w' b c := by
  obtain ⟨⟨k, h1, h2⟩, h3⟩ := h
  exact ⟨⟨k, hb.trans h1, h2⟩, h3⟩
theorem CMap.below {w w' : World} {b : Nat} {c : List Cnt} (h : CMap w b c) (hb : Below w.heap.size w w') : CMap w' b c := h.keep (hb.block b h.lt)
theorem CMap.made (w : World) : CMap (w.alloc (.map #[] 0)) w.heap.size [] := ⟨⟨0, heap_alloc_new _ _, fun x hx => by cases hx⟩, List.Pairwise.nil⟩
theorem zero3 (w : World) : (zeroValue 3).run Tryd.prog w = .ok (.int .i64 0) w := by kernel_rfl
theorem CMap.look {w : World} {b : Nat} {c : List Cnt} (h : CMap w b c) (v : Vt) : (Instr.lookup 83 (.map (some b)) (.agg (vtA v)) false).run Tryd.prog w = .ok (.int .i64 (cntV c v : Int)) w := by
  obtain ⟨⟨k, hb, _⟩, _⟩ := h
  have hg : (getObj b).run Tryd.prog w = .ok (.map (c.map mkE).toArray k) w := by simp [getObj, Sem.run, hb]
  rcases fndV_cnt v c 0 with ⟨h1, h2, _⟩ | ⟨a, x, d, _, _, _, h1, h2⟩
  · simp [Instr.lookup, run_underlying Tryd.underlying83, hg, check_vt, find_vt, h1, h2]
  · simp [Instr.lookup, run_underlying Tryd.underlying83, hg, check_vt, find_vt, h1, h2]
theorem same_vt (v : Vt) (n : Nat) : Instr.sameBits (n + 1) (.agg (vtA v)) (.agg (vtA v)) = true := by
  simp [Instr.sameBits, vtA, vtC]
theorem stays_vt (v : Vt) (w : World) : (Instr.keyThatStays (.agg (vtA v)) (.agg (vtA v))).run Tryd.prog w = .ok (.agg (vtA v)) w := by
  rw [Instr.keyThatStays, if_pos (same_vt v 9999)]
  rfl
theorem cntV_part {a d : List Cnt} {v u : Vt} {n m born : Nat} (ha : ∀ y ∈ a, v ≠ y.1) : cntV (a ++ (v, m, born) :: d) u = if u = v then m else cntV (a ++ (v, n, born) :: d) u := by
  unfold cntV
  rw [List.find?_append, List.find?_append, List.find?_cons, List.find?_cons]
  by_cases e : u = v
  · subst e
    have hn : a.find? (fun x => decide (u = x.1)) = none := by
      rw [List.find?_eq_none]
      intro y hy
      simp [ha y hy]
    rw [hn]
    simp
  · rw [if_neg e]
    simp [e]
theorem set_below {w : World} {b : Nat} {es : Array MapEntry} {k : Nat} (hb : w.heap[b]? = some (.map es k)) (o : Obj) : Below b w (ChangeMaps.setBlock w b o) :=
  ⟨rfl, rfl, rfl, by simp [ChangeMaps.setBlock], fun i hi => ChangeMaps.heap_setBlock_other hb o (by omega)⟩
theorem set_other {w : World} {b : Nat} {es : Array MapEntry} {k : Nat} (hb : w.heap[b]? = some (.map es k)) (o : Obj) (i : Nat) (h : i ≠ b) : (ChangeMaps.setBlock w b o).heap[i]? = w.heap[i]? := ChangeMaps.heap_setBlock_other hb o h
/-- the entry of a vote, made where there is none -/
theorem CMap.entry {w : World} {b : Nat} {c : List Cnt} (h : CMap w b c) (v : Vt) : ∃ (a d : List Cnt) (born : Nat) (w' : World), (Instr.mapEntry 83 (.map (some b)) (.agg (vtA v))).run Tryd.prog w = .ok (.tuple #[.int .i64 (cntV c v : Int), .int .i64 (born : Int)]) w' ∧ CMap w' b (a ++ (v, cntV c v, born) :: d) ∧ (∀ y ∈ a, v ≠ y.1) ∧ (∀ u, cntV (a ++ (v, cntV c v, born) :: d) u = cntV c u) ∧ Below b w w' ∧ ∀ i, i ≠ b → w'.heap[i]? = w.heap[i]? := by
  obtain ⟨⟨k, hb, hk⟩, hd⟩ := h
  have hg : (getObj b).run Tryd.prog w = .ok (.map (c.map mkE).toArray k) w := by simp [getObj, Sem.run, hb]
  rcases fndV_cnt v c 0 with ⟨h1, h2, h3⟩ | ⟨a, x, d, rfl, rfl, h3, h1, h2⟩
  · refine ⟨c, [], k, ChangeMaps.setBlock w b (.map ((c ++ [(v, 0, k)]).map mkE).toArray (k + 1)), ?_, ⟨⟨k + 1, ?_, ?_⟩, ?_⟩, h3, ?_, set_below hb _, set_other hb _⟩
    · have hs := MapKept.run_setObj_map (P := Tryd.prog) (w := w) (.map ((c ++ [(v, 0, k)]).map mkE).toArray (k + 1)) hb
      have he : ((c.map mkE).toArray.push { key := .agg (vtA v), val := .int .i64 0, born := k }) = ((c ++ [(v, 0, k)]).map mkE).toArray := by simp [mkE]
      rw [Instr.mapEntry]
      simp only [Sem.run_bind, run_underlying Tryd.underlying83, Result.andThen_ok, hg, check_vt, find_vt, h1, h2, zero3, he, hs]
      rfl
    · rw [h2]; exact ChangeMaps.heap_setBlock_same hb _
    · intro y hy
      rcases List.mem_append.1 hy with hy | hy
      · have := hk y hy; omega
      · obtain rfl : y = (v, cntV c v, k) := by simpa using hy
        show k < k + 1
        omega
    · rw [List.pairwise_append]
      refine ⟨hd, List.pairwise_singleton _ _, fun y hy z hz => ?_⟩
      obtain rfl : z = (v, cntV c v, k) := by simpa using hz
      have := hk y hy
      show y.2.2 ≠ k
      omega
    · intro u
      rw [h2]
      unfold cntV
      rw [List.find?_append]
      cases hf : c.find? (fun x => decide (u = x.1)) with
      | some y => rfl
      | none =>
        by_cases e : u = v
        · subst e; simp
        · simp [e]
  · refine ⟨a, d, x.2.2, ChangeMaps.setBlock w b (.map ((a ++ x :: d).map mkE).toArray k), ?_, ⟨⟨k, ?_, ?_⟩, ?_⟩, h3, ?_, set_below hb _, set_other hb _⟩
    · have hs := MapKept.run_setObj_map (P := Tryd.prog) (w := w) (.map ((a ++ x :: d).map mkE).toArray k) hb
      have hx : ((a ++ x :: d).map mkE).toArray[a.length]? = some (mkE x) := by simp
      have he : (((a ++ x :: d).map mkE).toArray.modify a.length fun e => { e with key := .agg (vtA x.1) }) = ((a ++ x :: d).map mkE).toArray := by
        apply Array.ext_getElem?
        intro i
        rw [Array.getElem?_modify]
        split
        · rename_i hi
          subst hi
          rw [hx]
          rfl
        · rfl
      have hst := stays_vt x.1 w
      rw [Instr.mapEntry]
      simp only [Sem.run_bind, run_underlying Tryd.underlying83, Result.andThen_ok, hg, check_vt, find_vt, h1, Nat.zero_add, hx, Option.map_some, Option.getD_some]
      rw [show (mkE x).key = .agg (vtA x.1) from rfl, hst, Result.andThen_ok, he, hs]
      simp [goInt, ChangeMaps.setBlock, h2, mkE]
    · rw [h2]; exact ChangeMaps.heap_setBlock_same hb _
    · rw [h2]; exact hk
    · rw [h2]; exact hd
    · intro u; rw [h2]
/-- how often, laid into the entry -/
theorem CMap.store {w : World} {b : Nat} {a d : List Cnt} {v : Vt} {n born : Nat} (h : CMap w b (a ++ (v, n, born) :: d)) (m : Nat) : ∃ w', (Instr.entryStore 83 (.map (some b)) (.int .i64 (born : Int)) (.int .i64 (m : Int))).run Tryd.prog w = .ok () w' ∧ CMap w' b (a ++ (v, m, born) :: d) ∧ Below b w w' ∧ ∀ i, i ≠ b → w'.heap[i]? = w.heap[i]? := by
  obtain ⟨⟨k, hb, hk⟩, hd⟩ := h
  have hg : (getObj b).run Tryd.prog w = .ok (.map ((a ++ (v, n, born) :: d).map mkE).toArray k) w := by simp [getObj, Sem.run, hb]
  refine ⟨ChangeMaps.setBlock w b (.map ((a ++ (v, m, born) :: d).map mkE).toArray k), ?_, ⟨⟨k, ChangeMaps.heap_setBlock_same hb _, ?_⟩, ?_⟩, set_below hb _, set_other hb _⟩
  · have hs := MapKept.run_setObj_map (P := Tryd.prog) (w := w) (.map ((a ++ (v, m, born) :: d).map mkE).toArray k) hb
    have hf : ((a ++ (v, n, born) :: d).map mkE).toArray.findIdx? (fun e => (e.born : Int) == (born : Int)) = some a.length := by
      rw [List.findIdx?_toArray, List.map_append, List.findIdx?_append]
      have h0 : (a.map mkE).findIdx? (fun e => (e.born : Int) == (born : Int)) = none := by
        rw [List.findIdx?_eq_none_iff]
        intro e he
        obtain ⟨y, hy, rfl⟩ := List.mem_map.1 he
        have := (List.pairwise_append.1 hd).2.2 y hy (v, n, born) (by simp)
        simp [mkE]
        intro g
        exact this (show y.2.2 = born by omega)
      rw [h0, List.map_cons, List.findIdx?_cons]
      simp [mkE]
    have he : (((a ++ (v, n, born) :: d).map mkE).toArray.modify a.length fun e => { e with val := .int .i64 (m : Int) }) = ((a ++ (v, m, born) :: d).map mkE).toArray := by
      apply Array.ext_getElem?
      intro i
      rw [Array.getElem?_modify]
      split
      · rename_i hi
        subst hi
        simp [mkE]
      · rename_i hi
        simp only [List.getElem?_toArray, List.map_append, List.map_cons]
        rcases Nat.lt_or_ge i a.length with g | g
        · rw [List.getElem?_append_left (by simpa using g), List.getElem?_append_left (by simpa using g)]
        · rw [List.getElem?_append_right (by simpa using g), List.getElem?_append_right (by simpa using g)]
          obtain ⟨q, hq⟩ : ∃ q, i - (a.map mkE).length = q + 1 := ⟨i - a.length - 1, by simp; omega⟩
          rw [hq]
          rfl
    rw [Instr.entryStore]
    simp only [Sem.run_bind, hg, Result.andThen_ok, asInt, asIntOf, Sem.run_pure, hf, he, hs]
    rfl
  · intro y hy
    rcases List.mem_append.1 hy with hy | hy
    · exact hk y (List.mem_append_left _ hy)
    · rcases List.mem_cons.1 hy with rfl | hy
      · exact hk (v, n, born) (by simp)
      · exact hk y (List.mem_append_right _ (List.mem_cons_of_mem _ hy))
  · rw [List.pairwise_append, List.pairwise_cons] at hd ⊢
    refine ⟨hd.1, ⟨fun y hy => hd.2.1.1 y hy, hd.2.1.2⟩, fun y hy z hz => ?_⟩
    rcases List.mem_cons.1 hz with rfl | hz
    · exact hd.2.2 y hy (v, n, born) (by simp)
    · exact hd.2.2 y hy z (List.mem_cons_of_mem _ hz)
end Go.Proofs.YticjofjghpdmpaaDoor
