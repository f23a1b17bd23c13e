/-
  Rows of commands and entries that are cut, joined and changed. No function of the program is named here.
-/
import Derived.Laws.AppendOwnNone
import Derived.Test.YtmpefofifbehjabDoorKc26
import Derived.Test.YtmpefofifbehjabDoorKc3
import Derived.Test.YtmpefofifbehjabDoorKc9
import Derived.Test.YtmpefofifbehjabDoorKc10
namespace Go.Proofs.YtmpefofifbehjabDoor
open Go.RowKit
set_option linter.unusedVariables false

theorem owns_cap {w : World} {base e m n c : Nat} {a : Option Addr} {us : List Value} (h : w.ownsRow base e m (.slice a n c) n us) : n ≤ c ∧ (a = none → n = 0 ∧ c = 0) := by
  rcases h.2 with ⟨h1, h0⟩ | ⟨q, cap, cur, h1, _, _, hn, _⟩
  · simp only [Value.slice.injEq] at h1
    obtain ⟨rfl, rfl, rfl⟩ := h1
    exact ⟨Nat.le_refl _, fun _ => ⟨rfl, rfl⟩⟩
  · simp only [Value.slice.injEq] at h1
    obtain ⟨rfl, _, rfl⟩ := h1
    exact ⟨hn, fun g => by cases g⟩
theorem addr_add0 (b o : Nat) : (⟨b, o, none⟩ : Addr).add 0 = ⟨b, o, none⟩ := by unfold Addr.add; split <;> simp_all
set_option maxRecDepth 100000 in
/-- the first commands, with no room behind them -/
theorem Sq.upMax {w : World} {base : Nat} {a : Option Addr} {n c : Nat} {f : Nat → Cmd} (h : w.ownsRow base 40 5 (.slice a n c) n (crL f n)) (k : Nat) (hk : k ≤ n) (hn : n ≤ 1000) :
    ∃ a', (∀ W, (Instr.slice 33 (.slice a n c) none (some (.int .i64 (k : Int))) (some (.int .i64 (k : Int)))).run Tryd.prog W = .ok (.slice a' k k) W) ∧ Sq w (.slice a' k k) f k := by
  have hc := owns_cap h
  refine ⟨if k = 0 then a else a.map (·.add 0), fun W => ?_, ⟨⟨_, k, rfl, ?_⟩, by omega⟩⟩
  · rw [run_slice_hm (P := Tryd.prog) W 33 a _ c Tryd.underlying33 .i64 .i64 (k : Int) (k : Int) (by omega) (by omega) (by omega)]
    rw [elemCm, size5c]
    simp [Result.andThen, sliced]
  · by_cases h0 : k = 0
    · exact .inl h0
    · right
      obtain ⟨b, cap, e, hb, _, hr⟩ := owns_range h (by omega)
      simp only [Value.slice.injEq, true_and] at e
      obtain ⟨rfl, rfl⟩ := e
      refine ⟨b, 0, ?_, hb, fun i hi j u hj => ?_⟩
      · rw [if_neg h0, Option.map_some, addr_add0]
      · rw [Nat.zero_add]
        exact hr _ _ (crL_at f (by omega) hj)
/-- a chain's row reads as its entries -/
theorem Se.ofOwns {w : World} {base base' : Nat} {v : Value} {f : Nat → Cmd} {G : Nat → Nat × Nat} {n : Nat} (h : w.ownsRow base 49 8 v n (erL f G n)) (su : Sums w base' f G n) (hn : n ≤ 1000) : Se w v (enAt f) n := by
  refine ⟨?_, by omega⟩
  by_cases h0 : n = 0
  · obtain ⟨g, c, rfl⟩ := tOwns_shape h
    exact ⟨g, c, rfl, .inl h0⟩
  · obtain ⟨b, cap, rfl, hb, _, hr⟩ := owns_range h (by omega)
    refine ⟨_, cap, rfl, .inr ⟨b, 0, rfl, hb, fun i hi => ⟨.slice (some ⟨(G i).1, 0, none⟩) 32 (G i).2, fun j u hj => ?_, su.sl i hi⟩⟩⟩
    rw [Nat.zero_add]
    exact hr _ _ (erL_get f G hi hj)
set_option maxRecDepth 100000 in
/-- its first entries, with no room behind them, and with it -/
theorem Se.upMax {w : World} {base base' : Nat} {a : Option Addr} {n c : Nat} {f : Nat → Cmd} {G : Nat → Nat × Nat} (h : w.ownsRow base 49 8 (.slice a n c) n (erL f G n)) (su : Sums w base' f G n) (k : Nat) (hk : k ≤ n) (hn : n ≤ 1000) :
    ∃ a', (∀ W, (Instr.slice 44 (.slice a n c) none (some (.int .i64 (k : Int))) (some (.int .i64 (k : Int)))).run Tryd.prog W = .ok (.slice a' k k) W) ∧ Se w (.slice a' k k) (enAt f) k := by
  have hc := owns_cap h
  refine ⟨if k = 0 then a else a.map (·.add 0), fun W => ?_, ⟨⟨_, k, rfl, ?_⟩, by omega⟩⟩
  · rw [run_slice_hm (P := Tryd.prog) W 44 a _ c Tryd.underlying44 .i64 .i64 (k : Int) (k : Int) (by omega) (by omega) (by omega)]
    rw [elemEn, size8e]
    simp [Result.andThen, sliced]
  · by_cases h0 : k = 0
    · exact .inl h0
    · right
      obtain ⟨b, cap, e, hb, _, hr⟩ := owns_range h (by omega)
      simp only [Value.slice.injEq, true_and] at e
      obtain ⟨rfl, rfl⟩ := e
      refine ⟨b, 0, ?_, hb, fun i hi => ⟨.slice (some ⟨(G i).1, 0, none⟩) 32 (G i).2, fun j u hj => ?_, su.sl i (by omega)⟩⟩
      · rw [if_neg h0, Option.map_some, addr_add0]
      · rw [Nat.zero_add]
        exact hr _ _ (erL_get f G (by omega) hj)
theorem erL_one (f : Nat → Cmd) (G : Nat → Nat × Nat) (n : Nat) : ∀ u ∈ erL f G n, u.oneCell' = true := by
  induction n with
  | zero => intro u hu; cases hu
  | succ n ih =>
    intro u hu
    rcases List.mem_append.1 hu with h | h
    · exact ih u h
    · simp only [enC, List.mem_cons, List.not_mem_nil, or_false] at h
      rcases h with rfl | rfl | rfl | rfl | rfl | rfl | rfl | rfl <;> rfl
theorem erL_take (f : Nat → Cmd) (G : Nat → Nat × Nat) {n k : Nat} (hk : k ≤ n) {j : Nat} {u : Value} (h : (erL f G k)[j]? = some u) : (erL f G n)[j]? = some u := by
  induction n with
  | zero => obtain rfl : k = 0 := (by omega); exact h
  | succ n ih =>
    by_cases e : k = n + 1
    · subst e; exact h
    · have h1 := ih (by omega)
      rw [erL, List.getElem?_append_left (List.getElem?_eq_some_iff.1 h1).1]
      exact h1
set_option maxRecDepth 100000 in
/-- the first entries of a chain, copied behind nothing: append([]api.Entry(nil), x[:k]...) -/
theorem run_append_cut {w : World} {base : Nat} {a : Option Addr} {n c : Nat} {f : Nat → Cmd} {G : Nat → Nat × Nat} (h : w.ownsRow base 49 8 (.slice a n c) n (erL f G n)) (k : Nat) (hk : k ≤ n) (hn : n ≤ 1000) (B : Nat) (hB : B ≤ w.heap.size) :
    ∃ x, (∀ W, (Instr.slice 44 (.slice a n c) none (some (.int .i64 (k : Int))) none).run Tryd.prog W = .ok x W) ∧
      ∀ ty, ∃ v' w', (Builtin.append_ #[44, 44] ty #[.slice none 0 0, x]).run Tryd.prog w = .ok v' w' ∧ w'.ownsRow B 49 8 v' k (erL f G k) ∧ w.grownBy w' none := by
  have hc := owns_cap h
  obtain ⟨i0, hi, hz, hsz, hby⟩ := info_parts infoEn
  refine ⟨.slice (if c = 0 then a else a.map (·.add 0)) k c, fun W => ?_, fun ty => ?_⟩
  · rw [run_slice_h (P := Tryd.prog) W 44 a _ c Tryd.underlying44 .i64 (k : Int) (by omega) (by omega)]
    rw [elemEn, size8e]
    simp [Result.andThen, sliced]
  · have hown : w.ownsRow B 49 8 (.slice none 0 0) 0 [] := ownsNil _ _ _ _
    cases a with
    | none =>
      obtain ⟨rfl, rfl⟩ := hc.2 rfl
      obtain rfl : k = 0 := (by omega)
      refine ⟨.slice none 0 0, w, ?_, hown, ⟨rfl, rfl, rfl, Nat.le_refl _, fun _ _ _ => rfl⟩⟩
      simp only [if_true]
      exact run_append_owned_none (P := Tryd.prog) (w := w) B 44 ty 49 i0 8 Tryd.underlying44 hi (.slice none 0 0) 0 _ hown
    | some ad =>
      have had : ad = ⟨ad.block, 0, none⟩ ∧ ∀ j u, (erL f G n)[j]? = some u → w.cell? ⟨ad.block, j, none⟩ = some u := by
        rcases h.2 with ⟨h1, _⟩ | ⟨q, cap, cur, h1, _⟩
        · cases h1
        · simp only [Value.slice.injEq, Option.some.injEq] at h1
          obtain ⟨rfl, _, _⟩ := h1
          refine ⟨rfl, fun j u hj => ?_⟩
          have h2 := h.cells (g := q) rfl j u hj
          have hadd : (⟨q, 0, none⟩ : Addr).add j = ⟨q, j, none⟩ := by unfold Addr.add; split <;> simp_all
          rwa [hadd] at h2
      have hx : (if c = 0 then some ad else (some ad).map (·.add 0)) = some ad := by
        split
        · rfl
        · rw [Option.map_some, had.1, addr_add0]
      rw [hx]
      obtain ⟨v', w', hr, ho, hg, _⟩ := run_append_own (P := Tryd.prog) w B 44 ty 49 i0 zEn 8 80 Tryd.underlying44 hi hz hsz hby rfl (by decide) (.slice none 0 0) 0 [] hown ad k c (erL f G k) (by rw [erL_length]; omega)
        (fun j u hj => by
          rw [had.1]
          rw [Addr.add_mid, Nat.zero_add]
          exact had.2 j u (erL_take f G hk hj)) (erL_one f G k) (by unfold maxLen; omega) (by omega) hB
      refine ⟨v', w', hr, ?_, hg⟩
      simpa using ho
/-- a chain's first entries, and one that is none behind them -/
def badF (f : Nat → Cmd) (k : Nat) : Nat → Ent := fun i => if i < k then enAt f i else ⟨⟨9, 0, 0, 0, 0⟩, 0, 0, []⟩
theorem badF_ok {f : Nat → Cmd} {k j : Nat} (hj : j < k) (h : (f j).e = 0) : AudOk (badF f k) j :=
  (AudOk.congr (F := badF f k) (F' := enAt f) (fun i hi => if_pos (by omega))).2 (enAt_aud f h)
theorem badF_no (f : Nat → Cmd) (k : Nat) : ¬ AudOk (badF f k) k := by
  intro h
  have h1 := h.1
  rw [show badF f k k = ⟨⟨9, 0, 0, 0, 0⟩, 0, 0, []⟩ from if_neg (by omega)] at h1
  exact absurd h1 (by decide)
theorem Se.bad {w : World} {base : Nat} {v : Value} {f : Nat → Cmd} {G : Nat → Nat × Nat} {k : Nat} (h : w.ownsRow base 49 8 v (k + 1) (erL f G k ++ [.int .i64 9, .int .i64 0, .int .i64 0, .int .i64 0, .int .i64 0, .int .i64 0, .int .i64 0, .slice none 0 0])) (su : ∀ i, i < k → Sl w (.slice (some ⟨(G i).1, 0, none⟩) 32 (G i).2) (gAt f (i + 1))) (hk : k ≤ 1000) : Se w v (badF f k) (k + 1) := by
  refine ⟨?_, by omega⟩
  obtain ⟨b, cap, rfl, hb, _, hr⟩ := owns_range h (by omega)
  refine ⟨_, cap, rfl, .inr ⟨b, 0, rfl, hb, fun i hi => ?_⟩⟩
  by_cases e : i < k
  · rw [show badF f k i = enAt f i from if_pos e]
    refine ⟨.slice (some ⟨(G i).1, 0, none⟩) 32 (G i).2, fun j u hj => ?_, su i e⟩
    rw [Nat.zero_add]
    have h1 := erL_get f G e hj
    exact hr _ _ (by rw [List.getElem?_append_left (List.getElem?_eq_some_iff.1 h1).1]; exact h1)
  · obtain rfl : i = k := by omega
    rw [show badF f i i = ⟨⟨9, 0, 0, 0, 0⟩, 0, 0, []⟩ from if_neg (by omega)]
    refine ⟨.slice none 0 0, fun j u hj => ?_, Sl.nil _ _⟩
    rw [Nat.zero_add]
    exact hr _ _ (by rw [List.getElem?_append_right (by rw [erL_length]; omega), erL_length, show 8 * i + j - 8 * i = j by omega]; exact hj)
end Go.Proofs.YtmpefofifbehjabDoor
/-
  The walk of the keeping statements' comparison.
-/
namespace Go.Proofs.YtmpefofifbehjabDoor
open Go.RowKit

theorem keep_same (va vb : Value) (la lb : List Int) (w : World) (ha : Sl w va la) (hb : Sl w vb lb) :
    Calls Tryd.prog 15 #[va, vb] w fun e w' => e = .returned (.bool (decide (la = lb))) ∧ w' = w := by
  have c1 := run_convert_sl (P := Tryd.prog) w 47 9 5 Tryd.underlying47 Tryd.underlying5 Tryd.underlying9 va la ha
  have c2 := run_convert_sl (P := Tryd.prog) w 47 9 5 Tryd.underlying47 Tryd.underlying5 Tryd.underlying9 vb lb hb
  have e := strOfNums_inj ha.byte hb.byte
  have H : Hid (strOfNums la = strOfNums lb ↔ la = lb) := e
  clear e
  go_enter Tryd.func15, Tryd.ntmps15
  go_wp2
  go_ret
  refine ⟨ret_bool ?_, rfl⟩
  have h := H.out
  rw [Bool.eq_iff_iff, decide_eq_true_iff, ← h, beq_iff_eq]
  exact ⟨fun e => ByteArray.ext (Array.ext' (by rw [← ba_toList, ← ba_toList, e])), fun e => by rw [e]⟩
end Go.Proofs.YtmpefofifbehjabDoor
/-
  The walk of sha.Same.
-/
namespace Go.Proofs.YtmpefofifbehjabDoor
open Go.RowKit



def dif (la lb : List Int) : Nat → Int
  | 0 => 0
  | k + 1 => bits .or .u8 (dif la lb k) (bits .xor .u8 (la.getD k 0) (lb.getD k 0))

theorem or_zero {a b : Nat} : a ||| b = 0 ↔ a = 0 ∧ b = 0 := by
  constructor
  · intro h
    have h1 : ∀ i, (a ||| b).testBit i = false := by intro i; rw [h]; simp
    constructor
    · apply Nat.eq_of_testBit_eq; intro i; have := h1 i; rw [Nat.testBit_or] at this; simp at this; simp [this.1]
    · apply Nat.eq_of_testBit_eq; intro i; have := h1 i; rw [Nat.testBit_or] at this; simp at this; simp [this.2]
  · rintro ⟨rfl, rfl⟩; rfl

theorem xor_zero {a b : Nat} : a ^^^ b = 0 ↔ a = b := by
  constructor
  · intro h
    have h1 : ∀ i, (a ^^^ b).testBit i = false := by intro i; rw [h]; simp
    apply Nat.eq_of_testBit_eq; intro i; have := h1 i; rw [Nat.testBit_xor] at this; simpa using this
  · rintro rfl; simp

theorem dif_zero {la lb : List Int} (ha : ∀ x ∈ la, 0 ≤ x ∧ x < 256) (hb : ∀ x ∈ lb, 0 ≤ x ∧ x < 256) (k : Nat) :
    0 ≤ dif la lb k ∧ dif la lb k < 256 ∧ (dif la lb k = 0 ↔ ∀ i, i < k → la.getD i 0 = lb.getD i 0) := by
  induction k with
  | zero => simp [dif]
  | succ k ih =>
    obtain ⟨h1, h2, h3⟩ := ih
    have hx := getD_byte ha k
    have hy := getD_byte hb k
    have e1 := u8_xor _ _ hx.1 hx.2 hy.1 hy.2
    have hlt : (la.getD k 0).toNat ^^^ (lb.getD k 0).toNat < 256 := Nat.xor_lt_two_pow (n := 8) (by omega) (by omega)
    have e2 := u8_or (dif la lb k) (((la.getD k 0).toNat ^^^ (lb.getD k 0).toNat : Nat) : Int) h1 h2 (by omega) (by omega)
    have e3 : dif la lb (k + 1) = (((dif la lb k).toNat ||| ((la.getD k 0).toNat ^^^ (lb.getD k 0).toNat) : Nat) : Int) := by
      show bits .or .u8 (dif la lb k) (bits .xor .u8 (la.getD k 0) (lb.getD k 0)) = _
      rw [e1, e2]; simp
    have hlt2 : (dif la lb k).toNat ||| ((la.getD k 0).toNat ^^^ (lb.getD k 0).toNat) < 256 := Nat.or_lt_two_pow (n := 8) (by omega) hlt
    refine ⟨by rw [e3]; omega, by rw [e3]; omega, ?_⟩
    have e4 : dif la lb (k + 1) = 0 ↔ dif la lb k = 0 ∧ la.getD k 0 = lb.getD k 0 := by
      rw [e3]
      have := @or_zero (dif la lb k).toNat ((la.getD k 0).toNat ^^^ (lb.getD k 0).toNat)
      have h5 := @xor_zero (la.getD k 0).toNat (lb.getD k 0).toNat
      rw [h5] at this
      constructor
      · intro h
        have := this.1 (by omega)
        omega
      · intro h
        have := this.2 (by omega)
        omega
    rw [e4, h3]
    constructor
    · intro h i hi
      rcases Nat.lt_or_ge i k with h' | h'
      · exact h.1 i h'
      · obtain rfl : i = k := by omega
        exact h.2
    · intro h
      exact ⟨fun i hi => h i (by omega), h k (by omega)⟩

theorem dif_all {la lb : List Int} (ha : ∀ x ∈ la, 0 ≤ x ∧ x < 256) (hb : ∀ x ∈ lb, 0 ≤ x ∧ x < 256) (hl : la.length = lb.length) : (dif la lb lb.length == 0) = decide (la = lb) := by
  rw [Bool.eq_iff_iff, decide_eq_true_iff, beq_iff_eq, (dif_zero ha hb _).2.2]
  constructor
  · intro h
    apply List.ext_getElem hl
    intro i h1 h2
    have := h i h2
    rwa [getD_at h1, getD_at h2] at this
  · rintro rfl _ _; rfl

theorem same_any (va vb : Value) (la lb : List Int) (w : World) (ha : Sl w va la) (hb : Sl w vb lb) :
    Calls Tryd.prog 28 #[va, vb] w fun e w' => e = .returned (.bool (decide (la = lb))) ∧ ∃ n, w' = w.drewN n := by
  obtain ⟨⟨a, cap, rfl, hc, hn, h1⟩, hla, hba⟩ := ha
  obtain ⟨⟨b, cap', rfl, hc', hn', h1'⟩, hlb, hbb⟩ := hb
  by_cases hl : la.length = lb.length
  · rcases h1 with rfl | ⟨ba, oa, rfl, _, hca⟩
    · obtain rfl : lb = [] := List.eq_nil_of_length_eq_zero (by simpa using hl.symm)
      go_enter Tryd.func28, Tryd.ntmps28
      go_wp2
      refine wp_loop_rounds 1 ?_
      rw [rounds_succ]
      go_wp2
      go_ret
      exact ⟨rfl, 0, rfl⟩
    · rcases h1' with rfl | ⟨bb, ob, rfl, _, hcb⟩
      · obtain rfl : la = [] := List.eq_nil_of_length_eq_zero (by simpa using hl)
        go_enter Tryd.func28, Tryd.ntmps28
        go_wp2
        refine wp_loop_rounds 1 ?_
        rw [rounds_succ]
        go_wp2
        go_ret
        exact ⟨rfl, 0, rfl⟩
      · have HD : Hid ((dif la lb lb.length == 0) = decide (la = lb)) := dif_all hba hbb hl
        go_enter Tryd.func28, Tryd.ntmps28
        go_wp2
        go_loopw [5, 14] (fun d i wr => ∃ k n : Nat, k ≤ lb.length ∧ i = .int .i64 k ∧ d = .int .u8 (dif la lb k) ∧ wr = w.drewN n) (fun _ i _ => lb.length - (intOf i).toNat)
        case atStart => exact ⟨0, 0, Nat.zero_le _, rfl, rfl, rfl⟩
        case round =>
          obtain ⟨k, n, hk, rfl, rfl, rfl⟩ := hrel
          by_cases hlt : k < lb.length
          · have hx := hca k (by omega)
            have hy := hcb k hlt
            clear hca hcb hba hbb
            have hka : k < la.length := by omega
            go_wp2
            go_quiet (fail)
            go_wp2
            go_roundw
            case rel => exact ⟨k + 1, _, by omega, by go_num, by simp only [dif, getD_at hka, getD_at hlt], rfl⟩
            case measure => simp [intOf]; omega
          · obtain rfl : k = lb.length := by omega
            clear hca hcb
            go_wp2
            go_ret
            exact ⟨ret_bool HD.out, n, rfl⟩
  · have hne : ((la.length : Int) == (lb.length : Int)) = false := by simp; omega
    have hdd : decide (la = lb) = false := decide_eq_false (fun e => hl (by rw [e]))
    go_enter Tryd.func28, Tryd.ntmps28
    go_wp2
    go_ret
    exact ⟨ret_bool hdd.symm, 0, rfl⟩

end Go.Proofs.YtmpefofifbehjabDoor
/-
  The walk of entries that are compared.
-/
namespace Go.Proofs.YtmpefofifbehjabDoor
open Go.RowKit
set_option linter.unusedVariables false

set_option maxHeartbeats 2000000 in
set_option maxRecDepth 100000 in
theorem vsame_any (k1 c1 q1 n1 v1 C1 A1 k2 c2 q2 n2 v2 C2 A2 : Int) (x1 x2 : Option Addr) (m1 p1 m2 p2 : Nat) (l1 l2 : List Int) (w : World) (h1 : Sl w (.slice x1 m1 p1) l1) (h2 : Sl w (.slice x2 m2 p2) l2) :
    Calls Tryd.prog 22 #[.agg #[.int .i64 k1, .int .i64 c1, .int .i64 q1, .int .i64 n1, .int .i64 v1, .int .i64 C1, .int .i64 A1, .slice x1 m1 p1], .agg #[.int .i64 k2, .int .i64 c2, .int .i64 q2, .int .i64 n2, .int .i64 v2, .int .i64 C2, .int .i64 A2, .slice x2 m2 p2]] w fun e w' => e = .returned (.bool (decide (C1 = C2 ∧ A1 = A2 ∧ l1 = l2))) ∧ Below w.heap.size w w' := by
  obtain ⟨W0, hW0⟩ : ∃ W0, (w.alloc (.cells #[.int .i64 k1, .int .i64 c1, .int .i64 q1, .int .i64 n1, .int .i64 v1, .int .i64 C1, .int .i64 A1, .slice x1 m1 p1] 49)).alloc (.cells #[.int .i64 k2, .int .i64 c2, .int .i64 q2, .int .i64 n2, .int .i64 v2, .int .i64 C2, .int .i64 A2, .slice x2 m2 p2] 49) = W0 := ⟨_, rfl⟩
  have r0_a : W0.heap[w.heap.size]? = some (.cells #[.int .i64 k1, .int .i64 c1, .int .i64 q1, .int .i64 n1, .int .i64 v1, .int .i64 C1, .int .i64 A1, .slice x1 m1 p1] 49) := by rw [← hW0]; exact t_alloc2_0 _ _ _
  have r0_b : W0.heap[w.heap.size + 1]? = some (.cells #[.int .i64 k2, .int .i64 c2, .int .i64 q2, .int .i64 n2, .int .i64 v2, .int .i64 C2, .int .i64 A2, .slice x2 m2 p2] 49) := by rw [← hW0]; exact t_alloc2_1 _ _ _
  have bb : Below w.heap.size w W0 := by rw [← hW0]; exact t_allocB2 _ _ _
  have l0_a : w.heap.size < W0.heap.size := (Array.getElem?_eq_some_iff.1 r0_a).1
  have l0_b : (w.heap.size + 1) < W0.heap.size := (Array.getElem?_eq_some_iff.1 r0_b).1
  have sl0_a := h1.below bb
  have sl0_b := h2.below bb
  go_enter Tryd.func22, Tryd.ntmps22
  have cc1_a0 : W0.cell? ⟨w.heap.size, 0, none⟩ = some (.int .i64 k1) := cell_of_row _ _ 0 _ _ _ r0_a
  have cc1_a1 : W0.cell? ⟨w.heap.size, 1, none⟩ = some (.int .i64 c1) := cell_of_row _ _ 1 _ _ _ r0_a
  have cc1_a2 : W0.cell? ⟨w.heap.size, 2, none⟩ = some (.int .i64 q1) := cell_of_row _ _ 2 _ _ _ r0_a
  have cc1_a3 : W0.cell? ⟨w.heap.size, 3, none⟩ = some (.int .i64 n1) := cell_of_row _ _ 3 _ _ _ r0_a
  have cc1_a4 : W0.cell? ⟨w.heap.size, 4, none⟩ = some (.int .i64 v1) := cell_of_row _ _ 4 _ _ _ r0_a
  have cc1_a5 : W0.cell? ⟨w.heap.size, 5, none⟩ = some (.int .i64 C1) := cell_of_row _ _ 5 _ _ _ r0_a
  have cc1_a6 : W0.cell? ⟨w.heap.size, 6, none⟩ = some (.int .i64 A1) := cell_of_row _ _ 6 _ _ _ r0_a
  have cc1_a7 : W0.cell? ⟨w.heap.size, 7, none⟩ = some (.slice x1 m1 p1) := cell_of_row _ _ 7 _ _ _ r0_a
  have cc2_b0 : W0.cell? ⟨(w.heap.size + 1), 0, none⟩ = some (.int .i64 k2) := cell_of_row _ _ 0 _ _ _ r0_b
  have cc2_b1 : W0.cell? ⟨(w.heap.size + 1), 1, none⟩ = some (.int .i64 c2) := cell_of_row _ _ 1 _ _ _ r0_b
  have cc2_b2 : W0.cell? ⟨(w.heap.size + 1), 2, none⟩ = some (.int .i64 q2) := cell_of_row _ _ 2 _ _ _ r0_b
  have cc2_b3 : W0.cell? ⟨(w.heap.size + 1), 3, none⟩ = some (.int .i64 n2) := cell_of_row _ _ 3 _ _ _ r0_b
  have cc2_b4 : W0.cell? ⟨(w.heap.size + 1), 4, none⟩ = some (.int .i64 v2) := cell_of_row _ _ 4 _ _ _ r0_b
  have cc2_b5 : W0.cell? ⟨(w.heap.size + 1), 5, none⟩ = some (.int .i64 C2) := cell_of_row _ _ 5 _ _ _ r0_b
  have cc2_b6 : W0.cell? ⟨(w.heap.size + 1), 6, none⟩ = some (.int .i64 A2) := cell_of_row _ _ 6 _ _ _ r0_b
  have cc2_b7 : W0.cell? ⟨(w.heap.size + 1), 7, none⟩ = some (.slice x2 m2 p2) := cell_of_row _ _ 7 _ _ _ r0_b
  have e1 := eql_an C1 A1 C2 A2
  by_cases hA : C1 = C2 ∧ A1 = A2
  · rw [decide_eq_true hA] at e1
    have HA : Hid (C1 = C2 ∧ A1 = A2) := hA
    clear hA
    go_wp2_with fail
    clear hW0
    refine (same_any _ _ l1 l2 W0 sl0_a sl0_b).mono ?_
    rintro e w2 ⟨rfl, nd, rfl⟩
    have dd := below_drewN bb nd
    have HE : Hid (decide (l1 = l2) = decide (C1 = C2 ∧ A1 = A2 ∧ l1 = l2)) := by unfold Hid; rw [decide_eq_decide]; exact ⟨fun h => ⟨HA.out.1, HA.out.2, h⟩, fun h => h.2.2⟩
    generalize decide (l1 = l2) = B at HE ⊢
    go_wp2
    go_ret
    rw [← HE.out]
    exact ⟨rfl, dd⟩
  · rw [decide_eq_false hA] at e1
    have HE : Hid (decide (C1 = C2 ∧ A1 = A2 ∧ l1 = l2) = false) := decide_eq_false (fun h => hA ⟨h.1, h.2.1⟩)
    clear hA
    go_wp2
    go_ret
    rw [HE.out]
    exact ⟨rfl, bb⟩
end Go.Proofs.YtmpefofifbehjabDoor
