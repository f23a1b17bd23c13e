/-
  Channels that lie in variables of the keeping laws.
-/
import Derived.Test.YtpoaabjpeigooaaDoorQTake
import Derived.Test.YtpoaabjpeigooaaDoorQKeep
import Derived.Test.YtpoaabjpeigooaaDoorQBase
import Derived.Deep.RegionHeld3
namespace Go.Proofs.YtpoaabjpeigooaaDoor
open Go.RowKit
set_option linter.unusedVariables false

/-- a channel lies in the variable g -/
structure Cb (W : World) (g : Nat) (k : Value) (s t : Int) (l : List Bool) : Prop where
  row : W.heap[g]? = some (.cells (chA k s t l) 25 (0, 0))
theorem Cb.lt {W : World} {g : Nat} {k : Value} {s t : Int} {l : List Bool} (h : Cb W g k s t l) : g < W.heap.size := (Array.getElem?_eq_some_iff.1 h.row).1
theorem Cb.below {W W' : World} {g : Nat} {k : Value} {s t : Int} {l : List Bool} (h : Cb W g k s t l) (hb : Below W.heap.size W W') : Cb W' g k s t l := ⟨(hb.block _ h.lt).trans h.row⟩
theorem Cb.made (W : World) (k : Value) (s t : Int) (l : List Bool) : Cb (W.alloc (.cells (chA k s t l) 25)) W.heap.size k s t l := ⟨heap_alloc_new _ _⟩
theorem Cb.c0 {W : World} {g : Nat} {k : Value} {s t : Int} {l : List Bool} (h : Cb W g k s t l) : W.cell? ⟨g, 0, none⟩ = some k := (cell_of_row _ _ 0 _ _ _ h.row).trans (chA_key k s t l)
theorem Cb.c1 {W : World} {g : Nat} {k : Value} {s t : Int} {l : List Bool} (h : Cb W g k s t l) : W.cell? ⟨g, 1, none⟩ = some (.int .i64 s) := (cell_of_row _ _ 1 _ _ _ h.row).trans (chA_sent k s t l)
theorem Cb.c2 {W : World} {g : Nat} {k : Value} {s t : Int} {l : List Bool} (h : Cb W g k s t l) : W.cell? ⟨g, 2, none⟩ = some (.int .i64 t) := (cell_of_row _ _ 2 _ _ _ h.row).trans (chA_top k s t l)
theorem Cb.fr {W : World} {g : Nat} {k : Value} {s t : Int} {l : List Bool} (h : Cb W g k s t l) (i : Nat) : W.frozen? ⟨g, i, none⟩ = false := frozen_of_row _ _ i _ _ h.row
theorem Cb.sent {W : World} {g : Nat} {k : Value} {s t : Int} {l : List Bool} (h : Cb W g k s t l) (s' : Int) : Cb (W.setCell ⟨g, 1, none⟩ (.int .i64 s')) g k s' t l :=
  ⟨by rw [heap_setCell_same _ _ _ _ _ _ h.row, chA_setSent]⟩
theorem Cb.other {W : World} {g : Nat} {k : Value} {s t : Int} {l : List Bool} (h : Cb W g k s t l) (g' i : Nat) (u : Value) (hne : g ≠ g') : Cb (W.setCell ⟨g', i, none⟩ u) g k s t l :=
  ⟨(heap_setCell_other _ _ _ _ (by simpa using hne)).trans h.row⟩
theorem Cb.otherRow {W : World} {g : Nat} {k : Value} {s t : Int} {l : List Bool} (h : Cb W g k s t l) (g' : Nat) (cs : Array Value) (hne : g ≠ g') : Cb (W.setRow g' cs) g k s t l :=
  ⟨(setRow_other _ _ _ _ hne).trans h.row⟩
theorem chA_lit (k : Value) (s t : Int) (b0 b1 b2 b3 b4 b5 b6 b7 : Bool) : chA k s t [b0, b1, b2, b3, b4, b5, b6, b7] = #[k, .int .i64 s, .int .i64 t, .bool b0, .bool b1, .bool b2, .bool b3, .bool b4, .bool b5, .bool b6, .bool b7] := rfl
theorem chA_noB (k : Value) (s t : Int) : chA k s t noB = #[k, .int .i64 s, .int .i64 t, .bool false, .bool false, .bool false, .bool false, .bool false, .bool false, .bool false, .bool false] := rfl

theorem Cb.cells {W : World} {g : Nat} {k : Value} {s t : Int} (h : Cb W g k s t noB) : W.cell? ⟨g, 0, none⟩ = some k ∧ W.cell? ⟨g, 1, none⟩ = some (.int .i64 s) ∧ W.cell? ⟨g, 2, none⟩ = some (.int .i64 t) ∧ W.cell? ⟨g, 3, none⟩ = some (.bool false) ∧ W.cell? ⟨g, 4, none⟩ = some (.bool false) ∧ W.cell? ⟨g, 5, none⟩ = some (.bool false) ∧ W.cell? ⟨g, 6, none⟩ = some (.bool false) ∧ W.cell? ⟨g, 7, none⟩ = some (.bool false) ∧ W.cell? ⟨g, 8, none⟩ = some (.bool false) ∧ W.cell? ⟨g, 9, none⟩ = some (.bool false) ∧ W.cell? ⟨g, 10, none⟩ = some (.bool false) :=
  chA_cells h.row
theorem Cb.drew {W : World} {g : Nat} {k : Value} {s t : Int} {l : List Bool} (h : Cb W g k s t l) : Cb W.drew g k s t l := ⟨h.row⟩
/-- a region that may be walked in several orders, all of which end alike but for a variable's place and three values on the way -/
theorem region_mergeK {P : Program} {id : Nat} {ops : Array Oper} {K : Act → World → Prop} {Q : Exit → Act → World → Prop} {a : Act} {w : World} (R : Nat → Value → Value → Value → World → Prop) {A : Nat → Value → Value → Value → Act}
    (hreg : ∀ K' : Act → World → Prop, Hid (∀ g x y z W2, R g x y z W2 → K' (A g x y z) W2) → (Code.region id ops true).wp P (Exit.then K' Q) a w) (hrest : ∀ g x y z W2, R g x y z W2 → K (A g x y z) W2) : (Code.region id ops true).wp P (Exit.then K Q) a w := hreg K hrest
/-- the same with two values -/
theorem region_mergeK2 {P : Program} {id : Nat} {ops : Array Oper} {K : Act → World → Prop} {Q : Exit → Act → World → Prop} {a : Act} {w : World} (R : Nat → Value → Value → World → Prop) {A : Nat → Value → Value → Act}
    (hreg : ∀ K' : Act → World → Prop, Hid (∀ g x y W2, R g x y W2 → K' (A g x y) W2) → (Code.region id ops true).wp P (Exit.then K' Q) a w) (hrest : ∀ g x y W2, R g x y W2 → K (A g x y) W2) : (Code.region id ops true).wp P (Exit.then K Q) a w := hreg K hrest
/-- the same with no value -/
theorem region_mergeK0 {P : Program} {id : Nat} {ops : Array Oper} {K : Act → World → Prop} {Q : Exit → Act → World → Prop} {a : Act} {w : World} (R : Nat → World → Prop) {A : Nat → Act}
    (hreg : ∀ K' : Act → World → Prop, Hid (∀ g W2, R g W2 → K' (A g) W2) → (Code.region id ops true).wp P (Exit.then K' Q) a w) (hrest : ∀ g W2, R g W2 → K (A g) W2) : (Code.region id ops true).wp P (Exit.then K Q) a w := hreg K hrest
/-- a channel's new variable -/
def zCh : Obj := .cells (chA (.slice none 0 0) 0 0 noB) 25 (0, 0)
/-- the store of a whole channel into a variable -/
theorem ch_store {w : World} {g : Nat} {old : Array Value} {ty : TypeId} (k : Value) (s t : Int) (l : List Bool) (hg : w.heap[g]? = some (.cells old ty (0, 0))) (ho : old.size = 11) (hl : l.length = 8) {key : List Int} {w0 : World} (hk : Sl w0 k key) :
    (storeCells ⟨g, 0, none⟩ (chA k s t l).toList).run Tryd.prog w = .ok () (w.setRow g (chA k s t l)) := by
  have h1 := chA_one hk s t l
  have := run_storeCells_from (P := Tryd.prog) g ty (chA k s t l).toList 0 old w hg (by rw [Array.length_toList, chA_size]; omega) (fun v hv => (Array.all_eq_true_iff_forall_mem.1 h1) v (by simpa using hv))
  rw [this]
  simp
theorem Cb.stored {W : World} {g : Nat} {old : Array Value} (hg : W.heap[g]? = some (.cells old 25 (0, 0))) (k : Value) (s t : Int) (l : List Bool) : Cb (W.setRow g (chA k s t l)) g k s t l := ⟨setRow_heap _ _ _ _ _ _ hg⟩
/-- a new variable that a channel has been stored into -/
theorem newVar {wr W : World} {g : Nat} {old : Array Value} {v5 v6 : Value} {K : List Int} {n : Nat} {xs : List Value} {s t : Int} {l : List Bool} (e : Below wr.heap.size wr W) (hg : wr.heap.size ≤ g) (hr : W.heap[g]? = some (.cells old 25 (0, 0))) (ho : old = chA (.slice none 0 0) 0 0 noB) (s5 : Sl W v5 K) (o5 : W.ownsRow 0 5 1 v5 K.length (K.map (Value.int .u8))) (o6 : W.ownsRow 0 5 1 v6 n xs) :
    Below wr.heap.size wr (W.setRow g (chA v5 s t l)) ∧ wr.heap.size ≤ g ∧ Cb (W.setRow g (chA v5 s t l)) g v5 s t l ∧ Sl (W.setRow g (chA v5 s t l)) v5 K ∧ (W.setRow g (chA v5 s t l)).ownsRow 0 5 1 v5 K.length (K.map (Value.int .u8)) ∧ (W.setRow g (chA v5 s t l)).ownsRow 0 5 1 v6 n xs := by
  subst ho
  exact ⟨below_setRow e hg _, hg, Cb.stored hr _ _ _ _, s5.setRowBox hr _, own_setRowBox o5 hr (by decide) _, own_setRowBox o6 hr (by decide) _⟩
/-- the same where what came beside it is read alone -/
theorem newVarS {wr W : World} {g : Nat} {old : Array Value} {v5 v6 : Value} {K p : List Int} {s t : Int} {l : List Bool} (e : Below wr.heap.size wr W) (hg : wr.heap.size ≤ g) (hr : W.heap[g]? = some (.cells old 25 (0, 0))) (ho : old = chA (.slice none 0 0) 0 0 noB) (s5 : Sl W v5 K) (o5 : W.ownsRow 0 5 1 v5 K.length (K.map (Value.int .u8))) (s6 : Sl W v6 p) :
    Below wr.heap.size wr (W.setRow g (chA v5 s t l)) ∧ wr.heap.size ≤ g ∧ Cb (W.setRow g (chA v5 s t l)) g v5 s t l ∧ Sl (W.setRow g (chA v5 s t l)) v5 K ∧ (W.setRow g (chA v5 s t l)).ownsRow 0 5 1 v5 K.length (K.map (Value.int .u8)) ∧ Sl (W.setRow g (chA v5 s t l)) v6 p := by
  subst ho
  exact ⟨below_setRow e hg _, hg, Cb.stored hr _ _ _ _, s5.setRowBox hr _, own_setRowBox o5 hr (by decide) _, s6.setRowBox hr _⟩
/-- what New makes of a key that is long enough -/
theorem new_ok (vk : Value) (key : List Int) (w : World) (hk : Sl w vk key) (h32 : key.length = 32) :
    Calls Tryd.prog 16 #[vk] w fun e w' => ∃ v', e = .returned (.tuple #[.agg (chA v' 0 0 noB), .int .i64 0]) ∧ Sl w' v' key ∧ w'.ownsRow 0 5 1 v' key.length (key.map (Value.int .u8)) ∧ Below w.heap.size w w' := by
  refine (new_any vk key w hk).mono ?_
  rintro e w1 ⟨v', rfl, s1, b1⟩
  rw [if_pos h32] at s1 ⊢
  exact ⟨v', rfl, Sl.ofOwns s1 hk.len hk.byte, s1, b1⟩
theorem takT_new (n : Int) (h : 0 ≤ n) : takT 0 n = n + 1 := by unfold takT; rw [if_pos h]
end Go.Proofs.YtpoaabjpeigooaaDoor
/-
  Lists of lists of bytes in memory, and what the keeping laws send.
-/
namespace Go.Proofs.YtpoaabjpeigooaaDoor
open Go.RowKit
set_option linter.unusedVariables false

/-- the slice of slices v reads as ls -/
structure Bl (w : World) (v : Value) (ls : List (List Int)) : Prop where
  ex : ∃ a cap, v = .slice a ls.length cap ∧ ls.length ≤ cap ∧ (ls = [] ∨ ∃ b off, a = some ⟨b, off, none⟩ ∧ b < w.heap.size ∧ ∀ i, i < ls.length → ∃ u, w.cell? ⟨b, off + i, none⟩ = some u ∧ Sl w u (ls.getD i []))
  len : ls.length ≤ 140737488351232
theorem Bl.below {w w' : World} {v : Value} {ls : List (List Int)} (h : Bl w v ls) (hb : Below w.heap.size w w') : Bl w' v ls := by
  obtain ⟨⟨a, cap, rfl, hc, h1⟩, h2⟩ := h
  refine ⟨⟨a, cap, rfl, hc, ?_⟩, h2⟩
  rcases h1 with h1 | ⟨b, off, ha, hbs, hcell⟩
  · exact .inl h1
  · refine .inr ⟨b, off, ha, Nat.lt_of_lt_of_le hbs hb.size, fun i hi => ?_⟩
    obtain ⟨u, hu, hs⟩ := hcell i hi
    exact ⟨u, (hb.cell (p := ⟨b, off + i, none⟩) hbs).trans hu, hs.below hb⟩
theorem Bl.shape {w : World} {v : Value} {ls : List (List Int)} (h : Bl w v ls) : ∃ a cap, v = .slice a ls.length cap ∧ ls.length ≤ cap := by
  obtain ⟨⟨a, cap, rfl, hc, h1⟩, h2⟩ := h
  exact ⟨a, cap, rfl, hc⟩
theorem Bl.spot {w : World} {a : Option Addr} {n cap : Nat} {ls : List (List Int)} (h : Bl w (.slice a n cap) ls) (i : Nat) (hi : i < ls.length) : ∃ b off u, a = some ⟨b, off, none⟩ ∧ b < w.heap.size ∧ w.cell? ⟨b, off + i, none⟩ = some u ∧ Sl w u (ls.getD i []) := by
  obtain ⟨⟨a', cap', e, hc, h1⟩, h2⟩ := h
  simp only [Value.slice.injEq] at e
  obtain ⟨rfl, rfl, rfl⟩ := e
  rcases h1 with rfl | ⟨b, off, rfl, hbs, hcell⟩
  · simp at hi
  · obtain ⟨u, hu, hs⟩ := hcell i hi
    exact ⟨b, off, u, rfl, hbs, hu, hs⟩

theorem infoSl : (Tryd.prog.info? 22).map (fun i => (i.zero, i.size, i.bytes)) = some (some (.slice none 0 0), 1, 24) := by kernel_rfl
/-- one slice more behind a row of the call's own -/
theorem run_append_cell (w : World) (base ty : Nat) (v : Value) (us : List Value) (hown : w.ownsRow base 22 1 v us.length us) (g : Nat) (x : Value) (hu : w.cell? ⟨g, 0, none⟩ = some x) (hx : x.oneCell' = true)
    (hlen : us.length ≤ 1000000) (hbase : base ≤ w.heap.size) :
    ∃ v' w', (Builtin.append_ #[34, 34] ty #[v, .slice (some ⟨g, 0, none⟩) 1 1]).run Tryd.prog w = .ok v' w' ∧ w'.ownsRow base 22 1 v' (us ++ [x]).length (us ++ [x]) ∧ w.grownBy w' v.ownBlock := by
  obtain ⟨i, hi, hz, hsz, hby⟩ := info_parts infoSl
  obtain ⟨v', w', hr, ho, hg, _⟩ := run_append_own (P := Tryd.prog) w base 34 ty 22 i (.slice none 0 0) 1 24 Tryd.underlying34 hi hz hsz hby rfl (by decide) v us.length _ hown ⟨g, 0, none⟩ 1 1 [x] (by simp)
    (by
      intro j u hj
      obtain rfl : j = 0 := by
        have := (List.getElem?_eq_some_iff.1 hj).1
        simpa using this
      simp at hj
      subst hj
      exact hu)
    (by simpa using hx) (by unfold maxLen; omega) (by omega) hbase
  exact ⟨v', w', hr, by simpa using ho, hg⟩
theorem wpList_append_cell (w : World) {ops : Array Oper} {rest : List Oper} {o : Oper} {a : Act} {Q : Exit → Act → World → Prop} (hgd : o.guard = none) (s y : Operand)
    (ho : o.op = .call { callee := .builtin .append, args := #[s, y], argTypes := #[34, 34] })
    (base : Nat) (v : Value) (us : List Value) (g : Nat) (x : Value) (hs : a.eval s = v) (hx : a.eval y = .slice (some ⟨g, 0, none⟩) 1 1) (hown : w.ownsRow base 22 1 v us.length us) (hu : w.cell? ⟨g, 0, none⟩ = some x) (hx1 : x.oneCell' = true)
    (hlen : us.length ≤ 1000000) (hbase : base ≤ w.heap.size)
    (h : ∀ v' w', w'.ownsRow base 22 1 v' (us ++ [x]).length (us ++ [x]) → w.grownBy w' v.ownBlock → wpList Tryd.prog ops Q rest (a.put o.dst v') w') : wpList Tryd.prog ops Q (o :: rest) a w := by
  refine wpList_plain hgd fun K hK => ?_
  obtain ⟨v', w', hrun, r1, r2⟩ := run_append_cell w base o.type v us hown g x hu hx1 hlen hbase
  unfold Oper.wp execOp
  simp only [ho, resolve, invoke, builtin, Sem.run_bind, Sem.run_pure, Result.andThen_ok, List.map_toArray, List.map_cons, List.map_nil, hs, hx, hrun]
  exact hK _ _ (h v' w' r1 r2)

/-- the slices us are rows of bytes, each of its own, that read as rs -/
def Rws (w : World) (us : List Value) (rs : List (List Int)) : Prop := us.length = rs.length ∧ ∀ i, i < rs.length → w.ownsRow 0 5 1 (us.getD i default) (rs.getD i []).length ((rs.getD i []).map (Value.int .u8))
theorem Rws.below {w w' : World} {us : List Value} {rs : List (List Int)} (h : Rws w us rs) (hb : Below w.heap.size w w') : Rws w' us rs := ⟨h.1, fun i hi => owns_below (h.2 i hi) hb⟩
theorem Rws.rowBox {w : World} {us : List Value} {rs : List (List Int)} (h : Rws w us rs) {B : Nat} {A : Array Value} {ty : TypeId} {fr : Nat × Nat} (hr : w.heap[B]? = some (.cells A ty fr)) (hty : ty ≠ 5) (cs : Array Value) : Rws (w.setRow B cs) us rs := ⟨h.1, fun i hi => own_setRowBox (h.2 i hi) hr hty cs⟩
/-- two rows of other elements are apart -/
theorem own_ne_row {W : World} {v u : Value} {b b' n m : Nat} {xs ys : List Value} (h : W.ownsRow b 5 1 v n xs) (h' : W.ownsRow b' 22 1 u m ys) : v.ownBlock = none ∨ v.ownBlock ≠ u.ownBlock := by
  rcases h.2 with ⟨rfl, _⟩ | ⟨g, cap, cur, rfl, _, hg, _⟩
  · exact .inl rfl
  · rcases h'.2 with ⟨rfl, _⟩ | ⟨g', cap', cur', rfl, _, hg', _⟩
    · exact .inr (by simp [Value.ownBlock])
    · right
      simp only [Value.ownBlock, ne_eq, Option.some.injEq]
      rintro rfl
      rw [hg] at hg'
      simp only [Option.some.injEq, Obj.cells.injEq] at hg'
      exact absurd hg'.2.1 (by decide)
theorem Rws.grown {w w' : World} {us : List Value} {rs : List (List Int)} (h : Rws w us rs) {u : Value} {b m : Nat} {ys : List Value} (hu : w.ownsRow b 22 1 u m ys) (hg : w.grownBy w' u.ownBlock) : Rws w' us rs :=
  ⟨h.1, fun i hi => (h.2 i hi).kept hg (own_ne_row (h.2 i hi) hu)⟩
theorem getD_snoc_lt {α : Type} (l : List α) (x d : α) (i : Nat) (hi : i < l.length) : (l ++ [x]).getD i d = l.getD i d := by simp [List.getD, List.getElem?_append_left hi]
theorem getD_snoc_eq {α : Type} (l : List α) (x d : α) (i : Nat) (hi : i = l.length) : (l ++ [x]).getD i d = x := by subst hi; simp [List.getD]
theorem Rws.snoc {w : World} {us : List Value} {rs : List (List Int)} (h : Rws w us rs) {u : Value} {r : List Int} (hu : w.ownsRow 0 5 1 u r.length (r.map (Value.int .u8))) : Rws w (us ++ [u]) (rs ++ [r]) := by
  refine ⟨by simp [h.1], fun i hi => ?_⟩
  rw [List.length_append, List.length_singleton] at hi
  by_cases hlt : i < rs.length
  · have h1 := h.1
    rw [getD_snoc_lt us _ _ _ (by omega), getD_snoc_lt rs _ _ _ hlt]
    exact h.2 i hlt
  · have h1 := h.1
    rw [getD_snoc_eq us _ _ _ (by omega), getD_snoc_eq rs _ _ _ (by omega)]
    exact hu
/-- a row of such slices reads as the lists -/
theorem Bl.ofRws {w : World} {base : Nat} {v : Value} {us : List Value} {rs : List (List Int)} (ho : w.ownsRow base 22 1 v us.length us) (h : Rws w us rs) (hl : rs.length ≤ 140737488351232) (hr : ∀ i, i < rs.length → (rs.getD i []).length ≤ 140737488351232 ∧ ∀ x ∈ rs.getD i [], 0 ≤ x ∧ x < 256) : Bl w v rs := by
  refine ⟨?_, hl⟩
  rcases ho.2 with ⟨rfl, h0⟩ | ⟨g, cap, cur, rfl, _, hg, hn, _, hcs, ht⟩
  · have : rs = [] := List.eq_nil_of_length_eq_zero (by rw [← h.1]; exact h0)
    subst this
    exact ⟨none, 0, rfl, by simp, .inl rfl⟩
  · refine ⟨_, cap, by rw [h.1], by rw [← h.1]; exact hn, .inr ⟨g, 0, rfl, (Array.getElem?_eq_some_iff.1 hg).1, fun i hi => ⟨us.getD i default, ?_, Sl.ofOwns (h.2 i hi) (hr i hi).1 (hr i hi).2⟩⟩⟩
    have hiu : i < us.length := by rw [h.1]; exact hi
    have hc := ho.cells (g := g) rfl i (us.getD i default) (by simp [List.getD, List.getElem?_eq_getElem hiu])
    have hadd : (⟨g, 0, none⟩ : Addr).add i = ⟨g, i, none⟩ := by unfold Addr.add; split <;> simp_all
    rw [hadd] at hc
    simpa using hc

/-- the records of some plain bytes: the first k -/
def recsL (K : List Int) (ls : List (List Int)) (k : Nat) : List (List Int) := (List.range k).map fun i : Nat => recL K (i : Int) ((ls.getD i []).take 40)
theorem recsL_length (K : List Int) (ls : List (List Int)) (k : Nat) : (recsL K ls k).length = k := by simp [recsL]
theorem recsL_succ (K : List Int) (ls : List (List Int)) (k : Nat) : recsL K ls (k + 1) = recsL K ls k ++ [recL K (k : Int) ((ls.getD k []).take 40)] := by
  rw [recsL, List.range_succ, List.map_append]; rfl
theorem recsL_get (K : List Int) (ls : List (List Int)) (k i : Nat) (hi : i < k) : (recsL K ls k).getD i [] = recL K (i : Int) ((ls.getD i []).take 40) := by
  simp [recsL, List.getD, hi]
theorem recsL_fit {w : World} {v : Value} (K : List Int) {ls : List (List Int)} (h : Bl w v ls) (k : Nat) (hk : k ≤ ls.length) : ∀ i, i < (recsL K ls k).length → ((recsL K ls k).getD i []).length ≤ 140737488351232 ∧ ∀ x ∈ (recsL K ls k).getD i [], 0 ≤ x ∧ x < 256 := by
  intro i hi
  rw [recsL_length] at hi
  obtain ⟨a, c, rfl, _⟩ := h.shape
  obtain ⟨b, off, u, _, _, _, hs⟩ := h.spot i (by omega)
  rw [recsL_get _ _ _ _ hi, recL_length]
  refine ⟨by rw [List.length_take]; omega, recL_byte _ _ fun x hx => hs.byte x (List.mem_of_mem_take hx)⟩

/-- a row of slices, each a row of bytes of its own -/
def OwnB (w : World) (v : Value) (rs : List (List Int)) : Prop := ∃ us : List Value, w.ownsRow 0 22 1 v us.length us ∧ Rws w us rs
theorem OwnB.below {w w' : World} {v : Value} {rs : List (List Int)} (h : OwnB w v rs) (hb : Below w.heap.size w w') : OwnB w' v rs := by
  obtain ⟨us, h1, h2⟩ := h
  exact ⟨us, owns_below h1 hb, h2.below hb⟩
theorem OwnB.rowBox {w : World} {v : Value} {rs : List (List Int)} (h : OwnB w v rs) {B : Nat} {A : Array Value} {ty : TypeId} {fr : Nat × Nat} (hr : w.heap[B]? = some (.cells A ty fr)) (hty : ty ≠ 5) (hty2 : ty ≠ 22) (cs : Array Value) : OwnB (w.setRow B cs) v rs := by
  obtain ⟨us, h1, h2⟩ := h
  refine ⟨us, owns_keepH h1 fun k hk => setRow_other _ _ _ _ ?_, h2.rowBox hr hty cs⟩
  rintro rfl
  rcases h1.2 with ⟨rfl, _⟩ | ⟨g, cap, cur, rfl, _, hg, _⟩
  · simp [Value.ownBlock] at hk
  · simp only [Value.ownBlock, Option.some.injEq] at hk
    subst hk
    rw [hg] at hr
    simp only [Option.some.injEq, Obj.cells.injEq] at hr
    exact hty2 hr.2.1.symm
theorem OwnB.cellBox {w : World} {v : Value} {rs : List (List Int)} (h : OwnB w v rs) {B : Nat} {A : Array Value} {ty : TypeId} {fr : Nat × Nat} (hr : w.heap[B]? = some (.cells A ty fr)) (hty : ty ≠ 5) (hty2 : ty ≠ 22) (i : Nat) (u : Value) : OwnB (w.setCell ⟨B, i, none⟩ u) v rs := by
  obtain ⟨us, h1, h2⟩ := h
  refine ⟨us, owns_keepH h1 fun k hk => heap_setCell_other _ _ _ _ ?_, h2.1, fun j hj => own_setBox (h2.2 j hj) hr hty i u⟩
  show k ≠ B
  rintro rfl
  rcases h1.2 with ⟨rfl, _⟩ | ⟨g, cap, cur, rfl, _, hg, _⟩
  · simp [Value.ownBlock] at hk
  · simp only [Value.ownBlock, Option.some.injEq] at hk
    subst hk
    rw [hg] at hr
    simp only [Option.some.injEq, Obj.cells.injEq] at hr
    exact hty2 hr.2.1.symm
/-- the records that were sent, as they are read -/
theorem OwnB.recs {w w0 : World} {v v1 : Value} {K : List Int} {ls : List (List Int)} {k : Nat} (h : OwnB w v (recsL K ls k)) (h1 : Bl w0 v1 ls) (hk : k ≤ ls.length) : Bl w v (recsL K ls k) := by
  obtain ⟨us, ho, hr⟩ := h
  exact Bl.ofRws ho hr (by rw [recsL_length]; have := h1.len; omega) (recsL_fit K h1 k hk)
end Go.Proofs.YtpoaabjpeigooaaDoor
/-
  Regions that draw their order, walked with what they read taken first: calls, new variables and stores as they come up.
-/
namespace Go.Proofs.YtpoaabjpeigooaaDoor
open Go.RowKit
set_option linter.unusedVariables false

/-- a region that may be walked in several orders, all of which end alike but for a variable's place and a value on the way -/
theorem region_mergeK1 {P : Program} {id : Nat} {ops : Array Oper} {K : Act → World → Prop} {Q : Exit → Act → World → Prop} {a : Act} {w : World} (R : Nat → Value → World → Prop) {A : Nat → Value → Act}
    (hreg : ∀ K' : Act → World → Prop, Hid (∀ g x W2, R g x W2 → K' (A g x) W2) → (Code.region id ops true).wp P (Exit.then K' Q) a w) (hrest : ∀ g x W2, R g x W2 → K (A g x) W2) : (Code.region id ops true).wp P (Exit.then K Q) a w := hreg K hrest
theorem region_mergeN2 {P : Program} {id : Nat} {ops : Array Oper} {K : Act → World → Prop} {Q : Exit → Act → World → Prop} {a : Act} {w : World} (R : Nat → Nat → World → Prop) {A : Nat → Nat → Act}
    (hreg : ∀ K' : Act → World → Prop, Hid (∀ g x W2, R g x W2 → K' (A g x) W2) → (Code.region id ops true).wp P (Exit.then K' Q) a w) (hrest : ∀ g x W2, R g x W2 → K (A g x) W2) : (Code.region id ops true).wp P (Exit.then K Q) a w := hreg K hrest

section
variable {P : Program} {md : Region.Mode} {ops : Array Oper} {Q : Exit → Act → World → Prop} {S : World → Prop}

theorem opRun {i d : Nat} {o : Oper} {a : Act} {w w' : World} {v : Value} {K : Act → World → Prop} (ho : ops[i]? = some o) (hw : Region.wanted o (yielded ops a.tmps) = true) (hd : o.dst = some d)
    (hrun : (execOp a.eval o).run P w = .ok (.value v) w') (h : K (a.put (some d) v) w') : wpOp P ops Q i K a w :=
  wpOp_step ho fun K' hK => by
    rw [if_pos hw]
    unfold Oper.wp
    rw [hrun, Oper.upon_value]
    exact hK _ _ (by rw [hd]; exact h)
theorem opCall {i d : Nat} {o : Oper} {a : Act} {w : World} {f : FuncId} {args : Array Value} {K : Act → World → Prop} (ho : ops[i]? = some o) (hw : Region.wanted o (yielded ops a.tmps) = true) (hd : o.dst = some d)
    (hrun : (execOp a.eval o).run P w = .ok (.enter f args) w) (h : Calls P f args w fun e w' => ∃ v, e = .returned v ∧ K (a.put (some d) v) w') : wpOp P ops Q i K a w :=
  wpOp_step ho fun K' hK => by
    rw [if_pos hw]
    unfold Oper.wp
    rw [hrun, Oper.upon_enter]
    refine h.mono fun e w' hh => ?_
    obtain ⟨v, rfl, hv⟩ := hh
    exact hK _ _ (by rw [hd]; exact hv)
theorem opStore {i : Nat} {o : Oper} {a : Act} {w : World} {K : Act → World → Prop} (ho : ops[i]? = some o) (hw : Region.wanted o (yielded ops a.tmps) = true) (hd : o.dst = none) (ty : TypeId) (x y : Operand) (hop : o.op = .store ty x y)
    (g : Nat) (cells : Array Value) (hx : a.eval x = .pointer (some ⟨g, 0, none⟩)) (hy : a.eval y = .agg cells)
    (t : TypeId) (old : Array Value) (hg : w.heap[g]? = some (.cells old t (0, 0))) (hi : (P.info? ty).map (·.size) = some cells.size)
    (hold : old.size = cells.size) (h1 : cells.all (·.oneCell') = true) (h : K a (w.setRow g cells)) : wpOp P ops Q i K a w :=
  wpOp_step ho fun K' hK => by
    rw [if_pos hw]
    exact wp_store_row ty x y hop g cells hx hy t old hg hi hold h1 (hK _ _ (by rw [hd]; exact h))
/-- one operation alone may come up -/
theorem heldOne {i fuel : Nat} {L : Array Bool} {a : Act} {w : World} (hr : Region.ready md ops L = [i])
    (h : wpOp P ops Q i (fun a' w' => S w' ∧ wpAnyH P md ops Q S fuel (L.setIfInBounds i true) a' w') a w) : wpAnyH P md ops Q S (fuel + 1) L a w :=
  wpAnyH_all hr (by simp) (fun j hj => by
    obtain rfl : j = i := by simpa using hj
    exact h)
/-- one of two may come up -/
theorem heldTwo {i i' fuel : Nat} {L : Array Bool} {a : Act} {w : World} (hr : Region.ready md ops L = [i, i'])
    (h : wpOp P ops Q i (fun a' w' => S w' ∧ wpAnyH P md ops Q S fuel (L.setIfInBounds i true) a' w') a w)
    (h' : wpOp P ops Q i' (fun a' w' => S w' ∧ wpAnyH P md ops Q S fuel (L.setIfInBounds i' true) a' w') a w) : wpAnyH P md ops Q S (fuel + 1) L a w :=
  wpAnyH_all hr (by simp) (fun j hj => by
    rcases (show j = i ∨ j = i' by simpa using hj) with rfl | rfl
    · exact h
    · exact h')
/-- what is read alone is taken first -/
theorem heldTake {i : Nat} (d : Nat) {oi : Oper} {v : Value} {fuel : Nat} {listed : Array Bool} {a : Act} {w : World} (hi : ops[i]? = some oi) (hd : oi.dst = some d)
    (hs : Region.noSelect ops = true) (hf : Region.free md ops listed i = true) (hr : (Region.ready md ops listed).contains i = true)
    (hQ : ∀ c a w, Q (.panic c) (a.put (some d) v) w → Q (.panic c) a w) (hy : YieldsIf P ops S oi v a) (hS : S w)
    (h : wpAnyH P md ops Q S fuel (listed.setIfInBounds i true) (a.put (some d) v) w) : wpAnyH P md ops Q S (fuel + 1) listed a w :=
  wpAnyH_take hi hs hf hr (by rw [hd]; exact hQ) hy hS (by rw [hd]; exact h)
/-- a load of one cell -/
theorem yieldCell {op : Oper} {a : Act} (hw : Region.wanted op (yielded ops a.tmps) = true) (ty : TypeId) (x : Operand) (ho : op.op = .load ty x) (d : TypeDesc) (hu : P.underlying ty = some d) (hd : d.isRow = false)
    (p : Addr) (hx : a.eval x = .pointer (some p)) (v : Value) (hS : ∀ w, S w → w.cell? p = some v) : YieldsIf P ops S op v a :=
  .inl ⟨hw, fun w hw' => by
    have hagg : (isAgg ty).run P w = .ok false w := by
      unfold isAgg
      rw [Sem.run_bind, run_underlying hu w]
      cases d <;> simp_all [TypeDesc.isRow]
    have hl : (loadVar ty p).run P w = .ok v w := by simp [loadVar, hagg, hS w hw', go_sem]
    unfold execOp
    simp only [ho, hx, Instr.loadAt, Instr.sureAddr, Sem.run_bind, Sem.run_pure, Result.andThen_ok, hl]⟩
end
/-- a load of a whole channel -/
theorem yieldCh {ops : Array Oper} {S : World → Prop} {op : Oper} {a : Act} (hw : Region.wanted op (yielded ops a.tmps) = true) (x : Operand) (ho : op.op = .load 25 x)
    (g : Nat) (hx : a.eval x = .pointer (some ⟨g, 0, none⟩)) (k : Value) (s t : Int) (l : List Bool) (hl : l.length = 8) (hS : ∀ w, S w → Cb w g k s t l) : YieldsIf Tryd.prog ops S op (.agg (chA k s t l)) a :=
  .inl ⟨hw, fun w hw' => by
    unfold execOp
    simp only [ho, hx, Instr.loadAt, Instr.sureAddr, Sem.run_bind, Sem.run_pure, Result.andThen_ok, run_loadVar_row w g 25 25 _ (0, 0) _ (hS w hw').row Tryd.underlying25 rfl (chInfo hl)]⟩
theorem elemBl : Tryd.prog.elem 34 = 22 := by kernel_rfl
theorem size22w (w : World) : (Go.sizeOf 22).run Tryd.prog w = .ok 1 w := by
  have h : (Tryd.prog.info? 22).map (·.size) = some 1 := by kernel_rfl
  cases hi : Tryd.prog.info? 22 with
  | none => rw [hi] at h; cases h
  | some i =>
    rw [hi] at h
    simp only [Option.map_some, Option.some.injEq] at h
    simp [sizeOf, typeInfo, hi, h]
set_option maxRecDepth 100000 in
/-- the place of an element of a list of lists -/
theorem runIndex (b o n c : Nat) (i : Nat) (hi : i < n) (w : World) : (Instr.indexAt 34 (.slice (some ⟨b, o, none⟩) n c) (.int .i64 (i : Int))).run Tryd.prog w = .ok (.pointer (some ⟨b, o + i, none⟩)) w := by
  rw [run_indexAt_slice (P := Tryd.prog) w 34 _ n c .i64 _ Tryd.underlying34, if_pos ⟨by omega, by omega⟩, elemBl, size22w]
  simp [Result.andThen, Addr.add_mid]
theorem yieldIndex {ops : Array Oper} {S : World → Prop} {op : Oper} {a : Act} (hw : Region.wanted op (yielded ops a.tmps) = true) (x y : Operand) (ho : op.op = .indexAddr 34 x y)
    (b o n c i : Nat) (hi : i < n) (hx : a.eval x = .slice (some ⟨b, o, none⟩) n c) (hy : a.eval y = .int .i64 (i : Int)) : YieldsIf Tryd.prog ops S op (.pointer (some ⟨b, o + i, none⟩)) a :=
  .inl ⟨hw, fun w _ => by
    unfold execOp
    simp only [ho, hx, hy, Sem.run_bind, Sem.run_pure, Result.andThen_ok, runIndex b o n c i hi w]⟩
end Go.Proofs.YtpoaabjpeigooaaDoor
/-
  Records that are taken, and records that were sent, in plain lists.
-/
namespace Go.Proofs.YtpoaabjpeigooaaDoor
open Go.RowKit
set_option linter.unusedVariables false

theorem head_fits {K h : List Int} (hK : K.length = 32) (hh : h.length = 4) : fits K (nonceL h) h = true := fits_of hK (nonceL_length hh) (by omega)
theorem rec_taken {K : List Int} {s t : Int} {l : List Bool} {D : List Int} (h : takeE K s t l D = 0) (hb : ∀ x ∈ D, 0 ≤ x ∧ x < 256) : recL K (numL (D.take 4)) (takeL K D) = D ∧ (takeL K D).length + 20 = D.length ∧ (takeL K D).length ≤ 2000 := by
  obtain ⟨hok, h20, h2020, _, _, hop⟩ := takeE_ok h
  have hh : (D.take 4).length = 4 := by rw [List.length_take]; omega
  have hdl : (D.drop 4).length = D.length - 4 := by rw [List.length_drop]
  have hhb : ∀ x ∈ D.take 4, 0 ≤ x ∧ x < 256 := fun x hx => hb x (List.mem_of_mem_take hx)
  have hdb : ∀ x ∈ D.drop 4, 0 ≤ x ∧ x < 256 := fun x hx => hb x (List.mem_of_mem_drop hx)
  have hf := head_fits hok.key hh
  have hst : stagL K (nonceL (D.take 4)) (D.take 4) ((D.drop 4).take ((D.drop 4).length - 16)) = (D.drop 4).drop ((D.drop 4).length - 16) := by
    rcases openE_is hf (show (D.drop 4).length ≤ 2016 by omega) with ⟨_, _, h3⟩ | h3 | ⟨h3, _⟩
    · exact h3
    · rw [hop] at h3; omega
    · rw [hop] at h3; omega
  have hs := seal_opened hop hst hdb
  have hl : (takeL K D).length = D.length - 20 := by
    unfold takeL openL
    rw [if_pos hop, smixL_length, List.length_take]
    omega
  refine ⟨?_, by omega, by omega⟩
  unfold recL
  rw [headL_num hh hhb]
  unfold takeL
  rw [hs]
  exact List.take_append_drop 4 D
theorem num_rec (K : List Int) (n : Int) (p : List Int) (n0 : 0 ≤ n) (n1 : n < 1073741824) : numL ((recL K n p).take 4) = n := by rw [recL_take, numL_head n n0 (by omega)]
theorem take_rec {K : List Int} {s t : Int} {l : List Bool} {n : Int} {p : List Int} (hok : OkC K s t l) (n0 : 0 ≤ n) (n1 : n < 1073741824) (lp : p.length ≤ 2000) (hp : ∀ x ∈ p, 0 ≤ x ∧ x < 256) (hold : oldB t l n = false) : takeE K s t l (recL K n p) = 0 := by
  rw [takeE_of hok (by rw [recL_length]; omega) (by rw [recL_length]; omega) (by rw [num_rec K n p n0 n1]; exact n1) (by rw [num_rec K n p n0 n1]; exact hold), recL_take, recL_drop]
  exact open_sealed (head_fits hok.key rfl) lp
theorem take_rec_old {K : List Int} {s t : Int} {l : List Bool} {n : Int} {p : List Int} (hok : OkC K s t l) (n0 : 0 ≤ n) (n1 : n < 1073741824) (lp : p.length ≤ 2000) (hold : oldB t l n = true) : takeE K s t l (recL K n p) = 7 :=
  takeE_old hok (by rw [recL_length]; omega) (by rw [recL_length]; omega) (by rw [num_rec K n p n0 n1]; exact n1) (by rw [num_rec K n p n0 n1]; exact hold)
theorem take_plain {K : List Int} {n : Int} {p : List Int} (hK : K.length = 32) (lp : p.length ≤ 2000) (hp : ∀ x ∈ p, 0 ≤ x ∧ x < 256) : takeL K (recL K n p) = p := by
  unfold takeL
  rw [recL_take, recL_drop]
  exact open_plain (head_fits hK rfl) lp hp
end Go.Proofs.YtpoaabjpeigooaaDoor
/-
  Lists of numbers in memory, whatever the numbers are.
-/
namespace Go.Proofs.YtpoaabjpeigooaaDoor
open Go.RowKit
set_option linter.unusedVariables false

/-- the slice of numbers v reads as zs -/
structure Zl (w : World) (v : Value) (zs : List Int) : Prop where
  ex : ∃ a cap, v = .slice a zs.length cap ∧ zs.length ≤ cap ∧ (zs = [] ∨ ∃ b off, a = some ⟨b, off, none⟩ ∧ b < w.heap.size ∧ ∀ i, i < zs.length → w.cell? ⟨b, off + i, none⟩ = some (.int .i64 (zs.getD i 0)))
  len : zs.length ≤ 140737488351232
  wide : ∀ x ∈ zs, -9223372036854775808 ≤ x ∧ x ≤ 9223372036854775807
theorem Zl.shape {w : World} {v : Value} {zs : List Int} (h : Zl w v zs) : ∃ a cap, v = .slice a zs.length cap ∧ zs.length ≤ cap := by
  obtain ⟨⟨a, cap, rfl, hc, h1⟩, h2, h3⟩ := h
  exact ⟨a, cap, rfl, hc⟩
theorem Zl.spot {w w' : World} {a : Option Addr} {n cap : Nat} {zs : List Int} (h : Zl w (.slice a n cap) zs) (hb : Below w.heap.size w w') (i : Nat) (hi : i < zs.length) : ∃ b off, a = some ⟨b, off, none⟩ ∧ b < w'.heap.size ∧ w'.cell? ⟨b, off + i, none⟩ = some (.int .i64 (zs.getD i 0)) ∧ -9223372036854775808 ≤ zs.getD i 0 ∧ zs.getD i 0 ≤ 9223372036854775807 := by
  obtain ⟨⟨a', cap', e, hc, h1⟩, h2, h3⟩ := h
  simp only [Value.slice.injEq] at e
  obtain ⟨rfl, rfl, rfl⟩ := e
  rcases h1 with rfl | ⟨b, off, rfl, hbs, hcell⟩
  · simp at hi
  · refine ⟨b, off, rfl, Nat.lt_of_lt_of_le hbs hb.size, (hb.cell (p := ⟨b, off + i, none⟩) hbs).trans (hcell i hi), ?_⟩
    rw [getD_at hi]
    exact h3 _ (List.getElem_mem hi)

end Go.Proofs.YtpoaabjpeigooaaDoor
