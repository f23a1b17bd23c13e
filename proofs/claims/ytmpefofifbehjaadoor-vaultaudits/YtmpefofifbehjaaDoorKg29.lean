/-
  Rows of commands, answers and entries as the laws read them. No function of the program is named here.
-/
import Derived.Laws.AppendOwnNone
import Derived.Test.YtmpefofifbehjaaDoorKg14
import Derived.Test.YtmpefofifbehjaaDoorKg27
import Derived.Test.YtmpefofifbehjaaDoorKg18
import Derived.Test.YtmpefofifbehjaaDoorKg2
namespace Go.Proofs.YtmpefofifbehjaaDoor
open Go.RowKit
set_option linter.unusedVariables false

theorem pyC_cyC (c : Cmd) : pyC c = cyC c := rfl
theorem crL_at (f : Nat → Cmd) {n i j : Nat} {u : Value} (hi : i < n) (hj : (cyC (f i))[j]? = some u) : (crL f n)[5 * i + j]? = some u := crL_get f hi hj
/-- what a row of the call's own holds, by its block -/
theorem owns_range {w : World} {base e m n : Nat} {v : Value} {us : List Value} (h : w.ownsRow base e m v n us) (hn : 0 < n) : ∃ b cap, v = .slice (some ⟨b, 0, none⟩) n cap ∧ b < w.heap.size ∧ base ≤ b ∧ ∀ j u, us[j]? = some u → w.cell? ⟨b, j, none⟩ = some u := by
  rcases h.2 with ⟨_, h0⟩ | ⟨q, cap, cur, rfl, hb, hg, _⟩
  · omega
  · refine ⟨q, cap, rfl, (Array.getElem?_eq_some_iff.1 hg).1, hb, fun j u hj => ?_⟩
    have h1 := h.cells (g := q) rfl j u hj
    have hadd : (⟨q, 0, none⟩ : Addr).add j = ⟨q, j, none⟩ := by unfold Addr.add; split <;> simp_all
    rwa [hadd] at h1
theorem Sq.ofOwns {w : World} {base : Nat} {v : Value} {f : Nat → Cmd} {n : Nat} (h : w.ownsRow base 31 5 v n (crL f n)) (hn : n ≤ 3518437208883) : Sq w v f n := by
  refine ⟨?_, hn⟩
  by_cases h0 : n = 0
  · obtain ⟨g, c, rfl⟩ := tOwns_shape h
    exact ⟨g, c, rfl, .inl h0⟩
  · obtain ⟨b, cap, rfl, hb, _, hc⟩ := owns_range h (by omega)
    refine ⟨_, cap, rfl, .inr ⟨b, 0, rfl, hb, fun i hi j u hj => ?_⟩⟩
    rw [Nat.zero_add]
    exact hc _ _ (crL_at f hi hj)
theorem elemAn : Tryd.prog.elem 48 = 25 := by kernel_rfl
theorem size2a (w : World) : (Go.sizeOf 25).run Tryd.prog w = .ok 2 w := by
  have h : (Tryd.prog.info? 25).map (·.size) = some 2 := by kernel_rfl
  cases hi : Tryd.prog.info? 25 with
  | none => rw [hi] at h; cases h
  | some i =>
    rw [hi] at h
    simp at h
    simp [sizeOf, typeInfo, hi, h]
set_option maxRecDepth 100000 in
theorem runIndexA (b o n c : Nat) (i : Nat) (hi : i < n) (w : World) : (Instr.indexAt 48 (.slice (some ⟨b, o, none⟩) n c) (.int .i64 (i : Int))).run Tryd.prog w = .ok (.pointer (some ⟨b, o + 2 * i, none⟩)) w := by
  rw [run_indexAt_slice (P := Tryd.prog) w 48 _ n c .i64 _ Tryd.underlying48, if_pos ⟨by omega, by omega⟩, elemAn, size2a]
  simp [Result.andThen, Addr.add_mid, Nat.mul_comm]
/-- a store that may not be -/
def stoBad : Sto := ⟨fun i => if i = 0 then -1 else 0, fun _ => 0, fun _ => 0, fun _ => 0, fun _ => false⟩
theorem stoBad_no : stoE stoBad = 5 := stoE_no (fun h => by have := (h.1 0 (by omega)).1; simp [stoBad] at this)
end Go.Proofs.YtmpefofifbehjaaDoor
/-
  Rows of commands and entries that are cut, joined and changed. No function of the program is named here.
-/
namespace Go.Proofs.YtmpefofifbehjaaDoor
open Go.RowKit
set_option linter.unusedVariables false

theorem owns_cap {w : World} {base e m n c : Nat} {a : Option Addr} {us : List Value} (h : w.ownsRow base e m (.slice a n c) n us) : n ≤ c ∧ (a = none → n = 0 ∧ c = 0) := by
  rcases h.2 with ⟨h1, h0⟩ | ⟨q, cap, cur, h1, _, _, hn, _⟩
  · simp only [Value.slice.injEq] at h1
    obtain ⟨rfl, rfl, rfl⟩ := h1
    exact ⟨Nat.le_refl _, fun _ => ⟨rfl, rfl⟩⟩
  · simp only [Value.slice.injEq] at h1
    obtain ⟨rfl, _, rfl⟩ := h1
    exact ⟨hn, fun g => by cases g⟩
theorem addr_add0 (b o : Nat) : (⟨b, o, none⟩ : Addr).add 0 = ⟨b, o, none⟩ := by unfold Addr.add; split <;> simp_all
set_option maxRecDepth 100000 in
/-- the first commands, with no room behind them -/
theorem Sq.upMax {w : World} {base : Nat} {a : Option Addr} {n c : Nat} {f : Nat → Cmd} (h : w.ownsRow base 31 5 (.slice a n c) n (crL f n)) (k : Nat) (hk : k ≤ n) (hn : n ≤ 1000) :
    ∃ a', (∀ W, (Instr.slice 35 (.slice a n c) none (some (.int .i64 (k : Int))) (some (.int .i64 (k : Int)))).run Tryd.prog W = .ok (.slice a' k k) W) ∧ Sq w (.slice a' k k) f k := by
  have hc := owns_cap h
  refine ⟨if k = 0 then a else a.map (·.add 0), fun W => ?_, ⟨⟨_, k, rfl, ?_⟩, by omega⟩⟩
  · rw [run_slice_hm (P := Tryd.prog) W 35 a _ c Tryd.underlying35 .i64 .i64 (k : Int) (k : Int) (by omega) (by omega) (by omega)]
    rw [elemCm, size5c]
    simp [Result.andThen, sliced]
  · by_cases h0 : k = 0
    · exact .inl h0
    · right
      obtain ⟨b, cap, e, hb, _, hr⟩ := owns_range h (by omega)
      simp only [Value.slice.injEq, true_and] at e
      obtain ⟨rfl, rfl⟩ := e
      refine ⟨b, 0, ?_, hb, fun i hi j u hj => ?_⟩
      · rw [if_neg h0, Option.map_some, addr_add0]
      · rw [Nat.zero_add]
        exact hr _ _ (crL_at f (by omega) hj)
/-- a chain's row reads as its entries -/
theorem Se.ofOwns {w : World} {base base' : Nat} {v : Value} {f : Nat → Cmd} {G : Nat → Nat × Nat} {n : Nat} (h : w.ownsRow base 64 8 v n (erL f G n)) (su : Sums w base' f G n) (hn : n ≤ 1000) : Se w v (enAt f) n := by
  refine ⟨?_, by omega⟩
  by_cases h0 : n = 0
  · obtain ⟨g, c, rfl⟩ := tOwns_shape h
    exact ⟨g, c, rfl, .inl h0⟩
  · obtain ⟨b, cap, rfl, hb, _, hr⟩ := owns_range h (by omega)
    refine ⟨_, cap, rfl, .inr ⟨b, 0, rfl, hb, fun i hi => ⟨.slice (some ⟨(G i).1, 0, none⟩) 32 (G i).2, fun j u hj => ?_, su.sl i hi⟩⟩⟩
    rw [Nat.zero_add]
    exact hr _ _ (erL_get f G hi hj)
set_option maxRecDepth 100000 in
/-- its first entries, with no room behind them, and with it -/
theorem Se.upMax {w : World} {base base' : Nat} {a : Option Addr} {n c : Nat} {f : Nat → Cmd} {G : Nat → Nat × Nat} (h : w.ownsRow base 64 8 (.slice a n c) n (erL f G n)) (su : Sums w base' f G n) (k : Nat) (hk : k ≤ n) (hn : n ≤ 1000) :
    ∃ a', (∀ W, (Instr.slice 36 (.slice a n c) none (some (.int .i64 (k : Int))) (some (.int .i64 (k : Int)))).run Tryd.prog W = .ok (.slice a' k k) W) ∧ Se w (.slice a' k k) (enAt f) k := by
  have hc := owns_cap h
  refine ⟨if k = 0 then a else a.map (·.add 0), fun W => ?_, ⟨⟨_, k, rfl, ?_⟩, by omega⟩⟩
  · rw [run_slice_hm (P := Tryd.prog) W 36 a _ c Tryd.underlying36 .i64 .i64 (k : Int) (k : Int) (by omega) (by omega) (by omega)]
    rw [elemEn, size8e]
    simp [Result.andThen, sliced]
  · by_cases h0 : k = 0
    · exact .inl h0
    · right
      obtain ⟨b, cap, e, hb, _, hr⟩ := owns_range h (by omega)
      simp only [Value.slice.injEq, true_and] at e
      obtain ⟨rfl, rfl⟩ := e
      refine ⟨b, 0, ?_, hb, fun i hi => ⟨.slice (some ⟨(G i).1, 0, none⟩) 32 (G i).2, fun j u hj => ?_, su.sl i (by omega)⟩⟩
      · rw [if_neg h0, Option.map_some, addr_add0]
      · rw [Nat.zero_add]
        exact hr _ _ (erL_get f G (by omega) hj)
theorem erL_one (f : Nat → Cmd) (G : Nat → Nat × Nat) (n : Nat) : ∀ u ∈ erL f G n, u.oneCell' = true := by
  induction n with
  | zero => intro u hu; cases hu
  | succ n ih =>
    intro u hu
    rcases List.mem_append.1 hu with h | h
    · exact ih u h
    · simp only [enC, List.mem_cons, List.not_mem_nil, or_false] at h
      rcases h with rfl | rfl | rfl | rfl | rfl | rfl | rfl | rfl <;> rfl
theorem erL_take (f : Nat → Cmd) (G : Nat → Nat × Nat) {n k : Nat} (hk : k ≤ n) {j : Nat} {u : Value} (h : (erL f G k)[j]? = some u) : (erL f G n)[j]? = some u := by
  induction n with
  | zero => obtain rfl : k = 0 := (by omega); exact h
  | succ n ih =>
    by_cases e : k = n + 1
    · subst e; exact h
    · have h1 := ih (by omega)
      rw [erL, List.getElem?_append_left (List.getElem?_eq_some_iff.1 h1).1]
      exact h1
set_option maxRecDepth 100000 in
/-- the first entries of a chain, copied behind nothing: append([]api.Entry(nil), x[:k]...) -/
theorem run_append_cut {w : World} {base : Nat} {a : Option Addr} {n c : Nat} {f : Nat → Cmd} {G : Nat → Nat × Nat} (h : w.ownsRow base 64 8 (.slice a n c) n (erL f G n)) (k : Nat) (hk : k ≤ n) (hn : n ≤ 1000) (B : Nat) (hB : B ≤ w.heap.size) :
    ∃ x, (∀ W, (Instr.slice 36 (.slice a n c) none (some (.int .i64 (k : Int))) none).run Tryd.prog W = .ok x W) ∧
      ∀ ty, ∃ v' w', (Builtin.append_ #[36, 36] ty #[.slice none 0 0, x]).run Tryd.prog w = .ok v' w' ∧ w'.ownsRow B 64 8 v' k (erL f G k) ∧ w.grownBy w' none := by
  have hc := owns_cap h
  obtain ⟨i0, hi, hz, hsz, hby⟩ := info_parts infoEn
  refine ⟨.slice (if c = 0 then a else a.map (·.add 0)) k c, fun W => ?_, fun ty => ?_⟩
  · rw [run_slice_h (P := Tryd.prog) W 36 a _ c Tryd.underlying36 .i64 (k : Int) (by omega) (by omega)]
    rw [elemEn, size8e]
    simp [Result.andThen, sliced]
  · have hown : w.ownsRow B 64 8 (.slice none 0 0) 0 [] := ownsNil _ _ _ _
    cases a with
    | none =>
      obtain ⟨rfl, rfl⟩ := hc.2 rfl
      obtain rfl : k = 0 := (by omega)
      refine ⟨.slice none 0 0, w, ?_, hown, ⟨rfl, rfl, rfl, Nat.le_refl _, fun _ _ _ => rfl⟩⟩
      simp only [if_true]
      exact run_append_owned_none (P := Tryd.prog) (w := w) B 36 ty 64 i0 8 Tryd.underlying36 hi (.slice none 0 0) 0 _ hown
    | some ad =>
      have had : ad = ⟨ad.block, 0, none⟩ ∧ ∀ j u, (erL f G n)[j]? = some u → w.cell? ⟨ad.block, j, none⟩ = some u := by
        rcases h.2 with ⟨h1, _⟩ | ⟨q, cap, cur, h1, _⟩
        · cases h1
        · simp only [Value.slice.injEq, Option.some.injEq] at h1
          obtain ⟨rfl, _, _⟩ := h1
          refine ⟨rfl, fun j u hj => ?_⟩
          have h2 := h.cells (g := q) rfl j u hj
          have hadd : (⟨q, 0, none⟩ : Addr).add j = ⟨q, j, none⟩ := by unfold Addr.add; split <;> simp_all
          rwa [hadd] at h2
      have hx : (if c = 0 then some ad else (some ad).map (·.add 0)) = some ad := by
        split
        · rfl
        · rw [Option.map_some, had.1, addr_add0]
      rw [hx]
      obtain ⟨v', w', hr, ho, hg, _⟩ := run_append_own (P := Tryd.prog) w B 36 ty 64 i0 zEn 8 80 Tryd.underlying36 hi hz hsz hby rfl (by decide) (.slice none 0 0) 0 [] hown ad k c (erL f G k) (by rw [erL_length]; omega)
        (fun j u hj => by
          rw [had.1]
          rw [Addr.add_mid, Nat.zero_add]
          exact had.2 j u (erL_take f G hk hj)) (erL_one f G k) (by unfold maxLen; omega) (by omega) hB
      refine ⟨v', w', hr, ?_, hg⟩
      simpa using ho
/-- a chain's first entries, and one that is none behind them -/
def badF (f : Nat → Cmd) (k : Nat) : Nat → Ent := fun i => if i < k then enAt f i else ⟨⟨9, 0, 0, 0, 0⟩, 0, 0, []⟩
theorem badF_ok {f : Nat → Cmd} {k j : Nat} (hj : j < k) (h : (f j).e = 0) : AudOk (badF f k) j :=
  (AudOk.congr (F := badF f k) (F' := enAt f) (fun i hi => if_pos (by omega))).2 (enAt_aud f h)
theorem badF_no (f : Nat → Cmd) (k : Nat) : ¬ AudOk (badF f k) k := by
  intro h
  have h1 := h.1
  rw [show badF f k k = ⟨⟨9, 0, 0, 0, 0⟩, 0, 0, []⟩ from if_neg (by omega)] at h1
  exact absurd h1 (by decide)
theorem Se.bad {w : World} {base : Nat} {v : Value} {f : Nat → Cmd} {G : Nat → Nat × Nat} {k : Nat} (h : w.ownsRow base 64 8 v (k + 1) (erL f G k ++ [.int .i64 9, .int .i64 0, .int .i64 0, .int .i64 0, .int .i64 0, .int .i64 0, .int .i64 0, .slice none 0 0])) (su : ∀ i, i < k → Sl w (.slice (some ⟨(G i).1, 0, none⟩) 32 (G i).2) (gAt f (i + 1))) (hk : k ≤ 1000) : Se w v (badF f k) (k + 1) := by
  refine ⟨?_, by omega⟩
  obtain ⟨b, cap, rfl, hb, _, hr⟩ := owns_range h (by omega)
  refine ⟨_, cap, rfl, .inr ⟨b, 0, rfl, hb, fun i hi => ?_⟩⟩
  by_cases e : i < k
  · rw [show badF f k i = enAt f i from if_pos e]
    refine ⟨.slice (some ⟨(G i).1, 0, none⟩) 32 (G i).2, fun j u hj => ?_, su i e⟩
    rw [Nat.zero_add]
    have h1 := erL_get f G e hj
    exact hr _ _ (by rw [List.getElem?_append_left (List.getElem?_eq_some_iff.1 h1).1]; exact h1)
  · obtain rfl : i = k := by omega
    rw [show badF f i i = ⟨⟨9, 0, 0, 0, 0⟩, 0, 0, []⟩ from if_neg (by omega)]
    refine ⟨.slice none 0 0, fun j u hj => ?_, Sl.nil _ _⟩
    rw [Nat.zero_add]
    exact hr _ _ (by rw [List.getElem?_append_right (by rw [erL_length]; omega), erL_length, show 8 * i + j - 8 * i = j by omega]; exact hj)
end Go.Proofs.YtmpefofifbehjaaDoor
/-
  What an audit finds is one thing; the first commands of a row. No function of the program is named here.
-/
namespace Go.Proofs.YtmpefofifbehjaaDoor
open Go.RowKit
set_option linter.unusedVariables false

theorem AudP.unique {F : Nat → Ent} {n : Nat} {p q : Int} (h : AudP F n p) (g : AudP F n q) : p = q := by
  rcases h with ⟨h1, h2⟩ | ⟨i, hi, hp, h1, h2⟩
  · rw [h1, g.right h2]
  · rw [hp, g.first hi h1 h2]
theorem str_sameA (a b : ByteArray) : (a.toList == b.toList) = decide (a = b) := by
  rw [Bool.eq_iff_iff, decide_eq_true_iff, beq_iff_eq]
  exact ⟨fun e => ByteArray.ext (Array.ext' (by rw [← ba_toList, ← ba_toList, e])), fun e => by rw [e]⟩
set_option maxRecDepth 100000 in
/-- the first commands -/
theorem Sq.up {w : World} {base : Nat} {a : Option Addr} {n c : Nat} {f : Nat → Cmd} (h : w.ownsRow base 31 5 (.slice a n c) n (crL f n)) (k : Nat) (hk : k ≤ n) (hn : n ≤ 1000) :
    ∃ a', (∀ W, (Instr.slice 35 (.slice a n c) none (some (.int .i64 (k : Int))) none).run Tryd.prog W = .ok (.slice a' k c) W) ∧ Sq w (.slice a' k c) f k := by
  have hc := owns_cap h
  refine ⟨if c = 0 then a else a.map (·.add 0), fun W => ?_, ⟨⟨_, c, rfl, ?_⟩, by omega⟩⟩
  · rw [run_slice_h (P := Tryd.prog) W 35 a _ c Tryd.underlying35 .i64 (k : Int) (by omega) (by omega)]
    rw [elemCm, size5c]
    simp [Result.andThen, sliced]
  · by_cases h0 : k = 0
    · exact .inl h0
    · right
      obtain ⟨b, cap, e, hb, _, hr⟩ := owns_range h (by omega)
      simp only [Value.slice.injEq, true_and] at e
      obtain ⟨rfl, rfl⟩ := e
      refine ⟨b, 0, ?_, hb, fun i hi j u hj => ?_⟩
      · split
        · rfl
        · rw [Option.map_some, addr_add0]
      · rw [Nat.zero_add]
        exact hr _ _ (crL_at f (by omega) hj)
end Go.Proofs.YtmpefofifbehjaaDoor
/-
  The walks of what the laws call beside the program and the document's answer.
-/
namespace Go.Proofs.YtmpefofifbehjaaDoor
open Go.RowKit

theorem octets_any (v : Value) (l : List Int) (w : World) (h : Sl w v l) :
    Calls Tryd.prog 31 #[v] w fun e w' => ∃ v', e = .returned v' ∧ w'.ownsRow w.heap.size 5 1 v' l.length (l.map (Value.int .u8)) ∧ Below w.heap.size w w' := by
  have hl := h.len
  go_enter Tryd.func31, Tryd.ntmps31
  go_wp2_with (at_builtin; refine wpList_append_sl _ rfl _ _ 59 rfl w.heap.size 5 Tryd.underlying59 info5 _ _ rfl rfl [] l (World.ownsRow_nil _ _ _ _) h (by simp; omega) (Nat.le_refl _) ?_)
  intro v' w' ho hg
  go_wp2
  go_ret
  exact ⟨v', rfl, by simpa using ho, (Below.refl _ _).grown hg (Nat.le_refl _) (by simp [Value.ownBlock])⟩

theorem law_same (va vb : Value) (la lb : List Int) (w : World) (ha : Sl w va la) (hb : Sl w vb lb) :
    Calls Tryd.prog 30 #[va, vb] w fun e w' => e = .returned (.bool (decide (la = lb))) ∧ w' = w := by
  have c1 := run_convert_sl (P := Tryd.prog) w 59 9 5 Tryd.underlying59 Tryd.underlying5 Tryd.underlying9 va la ha
  have c2 := run_convert_sl (P := Tryd.prog) w 59 9 5 Tryd.underlying59 Tryd.underlying5 Tryd.underlying9 vb lb hb
  have e := strOfNums_inj ha.byte hb.byte
  have H : Hid (strOfNums la = strOfNums lb ↔ la = lb) := e
  clear e
  go_enter Tryd.func30, Tryd.ntmps30
  go_wp2
  go_ret
  refine ⟨ret_bool ?_, rfl⟩
  have h := H.out
  rw [Bool.eq_iff_iff, decide_eq_true_iff, ← h, beq_iff_eq]
  exact ⟨fun e => ByteArray.ext (Array.ext' (by rw [← ba_toList, ← ba_toList, e])), fun e => by rw [e]⟩
end Go.Proofs.YtmpefofifbehjaaDoor
