/-
  The walk of sha.Same.
-/
import Derived.ChangeKeysEq
import Derived.Test.YtmpefofifbehjaaDoorKf2
import Derived.Test.YtmpefofifbehjaaDoorKf29
import Derived.Test.YtmpefofifbehjaaDoorKf6
import Derived.Test.YtmpefofifbehjaaDoorKf8
import Derived.Test.YtmpefofifbehjaaDoorKf18
import Derived.Test.YtmpefofifbehjaaDoorKf14
namespace Go.Proofs.YtmpefofifbehjaaDoor
open Go.RowKit



def dif (la lb : List Int) : Nat → Int
  | 0 => 0
  | k + 1 => bits .or .u8 (dif la lb k) (bits .xor .u8 (la.getD k 0) (lb.getD k 0))

theorem or_zero {a b : Nat} : a ||| b = 0 ↔ a = 0 ∧ b = 0 := by
  constructor
  · intro h
    have h1 : ∀ i, (a ||| b).testBit i = false := by intro i; rw [h]; simp
    constructor
    · apply Nat.eq_of_testBit_eq; intro i; have := h1 i; rw [Nat.testBit_or] at this; simp at this; simp [this.1]
    · apply Nat.eq_of_testBit_eq; intro i; have := h1 i; rw [Nat.testBit_or] at this; simp at this; simp [this.2]
  · rintro ⟨rfl, rfl⟩; rfl

theorem xor_zero {a b : Nat} : a ^^^ b = 0 ↔ a = b := by
  constructor
  · intro h
    have h1 : ∀ i, (a ^^^ b).testBit i = false := by intro i; rw [h]; simp
    apply Nat.eq_of_testBit_eq; intro i; have := h1 i; rw [Nat.testBit_xor] at this; simpa using this
  · rintro rfl; simp

theorem dif_zero {la lb : List Int} (ha : ∀ x ∈ la, 0 ≤ x ∧ x < 256) (hb : ∀ x ∈ lb, 0 ≤ x ∧ x < 256) (k : Nat) :
    0 ≤ dif la lb k ∧ dif la lb k < 256 ∧ (dif la lb k = 0 ↔ ∀ i, i < k → la.getD i 0 = lb.getD i 0) := by
  induction k with
  | zero => simp [dif]
  | succ k ih =>
    obtain ⟨h1, h2, h3⟩ := ih
    have hx := getD_byte ha k
    have hy := getD_byte hb k
    have e1 := u8_xor _ _ hx.1 hx.2 hy.1 hy.2
    have hlt : (la.getD k 0).toNat ^^^ (lb.getD k 0).toNat < 256 := Nat.xor_lt_two_pow (n := 8) (by omega) (by omega)
    have e2 := u8_or (dif la lb k) (((la.getD k 0).toNat ^^^ (lb.getD k 0).toNat : Nat) : Int) h1 h2 (by omega) (by omega)
    have e3 : dif la lb (k + 1) = (((dif la lb k).toNat ||| ((la.getD k 0).toNat ^^^ (lb.getD k 0).toNat) : Nat) : Int) := by
      show bits .or .u8 (dif la lb k) (bits .xor .u8 (la.getD k 0) (lb.getD k 0)) = _
      rw [e1, e2]; simp
    have hlt2 : (dif la lb k).toNat ||| ((la.getD k 0).toNat ^^^ (lb.getD k 0).toNat) < 256 := Nat.or_lt_two_pow (n := 8) (by omega) hlt
    refine ⟨by rw [e3]; omega, by rw [e3]; omega, ?_⟩
    have e4 : dif la lb (k + 1) = 0 ↔ dif la lb k = 0 ∧ la.getD k 0 = lb.getD k 0 := by
      rw [e3]
      have := @or_zero (dif la lb k).toNat ((la.getD k 0).toNat ^^^ (lb.getD k 0).toNat)
      have h5 := @xor_zero (la.getD k 0).toNat (lb.getD k 0).toNat
      rw [h5] at this
      constructor
      · intro h
        have := this.1 (by omega)
        omega
      · intro h
        have := this.2 (by omega)
        omega
    rw [e4, h3]
    constructor
    · intro h i hi
      rcases Nat.lt_or_ge i k with h' | h'
      · exact h.1 i h'
      · obtain rfl : i = k := by omega
        exact h.2
    · intro h
      exact ⟨fun i hi => h i (by omega), h k (by omega)⟩

theorem dif_all {la lb : List Int} (ha : ∀ x ∈ la, 0 ≤ x ∧ x < 256) (hb : ∀ x ∈ lb, 0 ≤ x ∧ x < 256) (hl : la.length = lb.length) : (dif la lb lb.length == 0) = decide (la = lb) := by
  rw [Bool.eq_iff_iff, decide_eq_true_iff, beq_iff_eq, (dif_zero ha hb _).2.2]
  constructor
  · intro h
    apply List.ext_getElem hl
    intro i h1 h2
    have := h i h2
    rwa [getD_at h1, getD_at h2] at this
  · rintro rfl _ _; rfl

theorem same_any (va vb : Value) (la lb : List Int) (w : World) (ha : Sl w va la) (hb : Sl w vb lb) :
    Calls Tryd.prog 43 #[va, vb] w fun e w' => e = .returned (.bool (decide (la = lb))) ∧ ∃ n, w' = w.drewN n := by
  obtain ⟨⟨a, cap, rfl, hc, hn, h1⟩, hla, hba⟩ := ha
  obtain ⟨⟨b, cap', rfl, hc', hn', h1'⟩, hlb, hbb⟩ := hb
  by_cases hl : la.length = lb.length
  · rcases h1 with rfl | ⟨ba, oa, rfl, _, hca⟩
    · obtain rfl : lb = [] := List.eq_nil_of_length_eq_zero (by simpa using hl.symm)
      go_enter Tryd.func43, Tryd.ntmps43
      go_wp2
      refine wp_loop_rounds 1 ?_
      rw [rounds_succ]
      go_wp2
      go_ret
      exact ⟨rfl, 0, rfl⟩
    · rcases h1' with rfl | ⟨bb, ob, rfl, _, hcb⟩
      · obtain rfl : la = [] := List.eq_nil_of_length_eq_zero (by simpa using hl)
        go_enter Tryd.func43, Tryd.ntmps43
        go_wp2
        refine wp_loop_rounds 1 ?_
        rw [rounds_succ]
        go_wp2
        go_ret
        exact ⟨rfl, 0, rfl⟩
      · have HD : Hid ((dif la lb lb.length == 0) = decide (la = lb)) := dif_all hba hbb hl
        go_enter Tryd.func43, Tryd.ntmps43
        go_wp2
        go_loopw [5, 14] (fun d i wr => ∃ k n : Nat, k ≤ lb.length ∧ i = .int .i64 k ∧ d = .int .u8 (dif la lb k) ∧ wr = w.drewN n) (fun _ i _ => lb.length - (intOf i).toNat)
        case atStart => exact ⟨0, 0, Nat.zero_le _, rfl, rfl, rfl⟩
        case round =>
          obtain ⟨k, n, hk, rfl, rfl, rfl⟩ := hrel
          by_cases hlt : k < lb.length
          · have hx := hca k (by omega)
            have hy := hcb k hlt
            clear hca hcb hba hbb
            have hka : k < la.length := by omega
            go_wp2
            go_quiet (fail)
            go_wp2
            go_roundw
            case rel => exact ⟨k + 1, _, by omega, by go_num, by simp only [dif, getD_at hka, getD_at hlt], rfl⟩
            case measure => simp [intOf]; omega
          · obtain rfl : k = lb.length := by omega
            clear hca hcb
            go_wp2
            go_ret
            exact ⟨ret_bool HD.out, n, rfl⟩
  · have hne : ((la.length : Int) == (lb.length : Int)) = false := by simp; omega
    have hdd : decide (la = lb) = false := decide_eq_false (fun e => hl (by rw [e]))
    go_enter Tryd.func43, Tryd.ntmps43
    go_wp2
    go_ret
    exact ⟨ret_bool hdd.symm, 0, rfl⟩

end Go.Proofs.YtmpefofifbehjaaDoor
/-
  The law's own comparison of entries.
-/
namespace Go.Proofs.YtmpefofifbehjaaDoor
open Go.RowKit
set_option linter.unusedVariables false

set_option maxHeartbeats 2000000 in
set_option maxRecDepth 100000 in
theorem sameEntries_any (x y : Value) (F : Nat → Ent) (n : Nat) (w : World) (hx : Se w x F n) (hy : Se w y F n) :
    Calls Tryd.prog 13 #[x, y] w fun e w' => e = .returned (.bool true) ∧ Below w.heap.size w w' := by
  obtain ⟨a0, cp, rfl⟩ := hx.shape
  obtain ⟨a1, cq, rfl⟩ := hy.shape
  have hlen := hx.len
  have HX : Hid (Se w (.slice a0 n cp) F n) := hx
  have HY : Hid (Se w (.slice a1 n cq) F n) := hy
  clear hx hy
  go_enter Tryd.func13, Tryd.ntmps13
  go_wp2_with fail
  go_loopw [5] (fun iv wr => ∃ i : Nat, i ≤ n ∧ iv = .int .i64 (i : Int) ∧ Below w.heap.size w wr) (fun iv _ => ((n : Int) - intOf iv).toNat)
  case atStart => exact ⟨0, by omega, rfl, Below.refl _ _⟩
  case round =>
    obtain ⟨i, hin, rfl, hbel⟩ := hrel
    by_cases hlt : i < n
    · have hlI : (i : Int) < (n : Int) := by omega
      have i0 : (0 : Int) ≤ (i : Int) := by omega
      obtain ⟨b0, o0, xa, xm, xp, rfl, hb0, hr0, hs0⟩ := HX.out.spot i hlt
      obtain ⟨b1, o1, ya, ym, yp, rfl, hb1, hr1, hs1⟩ := HY.out.spot i hlt
      obtain ⟨⟨⟨pk, pc, pq, pn, pv⟩, tC, tA, tg⟩, hp⟩ : ∃ c, F i = c := ⟨_, rfl⟩
      have hr0 := tRange hbel hb0 hr0
      have hr1 := tRange hbel hb1 hr1
      have hs0 := hs0.below hbel
      have hs1 := hs1.below hbel
      rw [hp] at hr0 hr1 hs0 hs1
      simp only [enV] at hr0 hr1 hs0 hs1
      clear hp
      have ix0 := runIndexE b0 o0 n cp i hlt
      have ix1 := runIndexE b1 o1 n cq i hlt
      have k00 : wr.cell? ⟨b0, o0 + 8 * i, none⟩ = some (.int .i64 pk) := hr0 0 _ rfl
      have k01 : wr.cell? ⟨b0, o0 + 8 * i + 1, none⟩ = some (.int .i64 pc) := hr0 1 _ rfl
      have k02 : wr.cell? ⟨b0, o0 + 8 * i + 2, none⟩ = some (.int .i64 pq) := hr0 2 _ rfl
      have k03 : wr.cell? ⟨b0, o0 + 8 * i + 3, none⟩ = some (.int .i64 pn) := hr0 3 _ rfl
      have k04 : wr.cell? ⟨b0, o0 + 8 * i + 4, none⟩ = some (.int .i64 pv) := hr0 4 _ rfl
      have k05 : wr.cell? ⟨b0, o0 + 8 * i + 5, none⟩ = some (.int .i64 tC) := hr0 5 _ rfl
      have k06 : wr.cell? ⟨b0, o0 + 8 * i + 6, none⟩ = some (.int .i64 tA) := hr0 6 _ rfl
      have k07 : wr.cell? ⟨b0, o0 + 8 * i + 7, none⟩ = some (.slice xa xm xp) := hr0 7 _ rfl
      have k10 : wr.cell? ⟨b1, o1 + 8 * i, none⟩ = some (.int .i64 pk) := hr1 0 _ rfl
      have k11 : wr.cell? ⟨b1, o1 + 8 * i + 1, none⟩ = some (.int .i64 pc) := hr1 1 _ rfl
      have k12 : wr.cell? ⟨b1, o1 + 8 * i + 2, none⟩ = some (.int .i64 pq) := hr1 2 _ rfl
      have k13 : wr.cell? ⟨b1, o1 + 8 * i + 3, none⟩ = some (.int .i64 pn) := hr1 3 _ rfl
      have k14 : wr.cell? ⟨b1, o1 + 8 * i + 4, none⟩ = some (.int .i64 pv) := hr1 4 _ rfl
      have k15 : wr.cell? ⟨b1, o1 + 8 * i + 5, none⟩ = some (.int .i64 tC) := hr1 5 _ rfl
      have k16 : wr.cell? ⟨b1, o1 + 8 * i + 6, none⟩ = some (.int .i64 tA) := hr1 6 _ rfl
      have k17 : wr.cell? ⟨b1, o1 + 8 * i + 7, none⟩ = some (.slice ya ym yp) := hr1 7 _ rfl
      have e1 := neq_com pk pc pq pn pv pk pc pq pn pv
      rw [decide_eq_true ⟨rfl, rfl, rfl, rfl, rfl⟩] at e1
      have e2 := neq_an tC tA tC tA
      rw [decide_eq_true ⟨rfl, rfl⟩] at e2
      have HL : Hid (∀ nd, Calls Tryd.prog 30 #[.slice xa xm xp, .slice ya ym yp] (wr.drewN nd) fun e w' => e = .returned (.bool true) ∧ w' = wr.drewN nd) := fun nd => by
        have h := law_same _ _ tg tg (wr.drewN nd) (hs0.below (below_drewN (Below.refl _ _) nd)) (hs1.below (below_drewN (Below.refl _ _) nd))
        rwa [decide_eq_true rfl] at h
      clear hr0 hr1 hs0 hs1 hb0 hb1
      go_wp2_with fail
      go_quiet ((go_at_call 30; exact Calls.quiet_of_same (HL.out _)))
      have e9 : Below w.heap.size w (wr.drewN nq) := below_drewN hbel nq
      go_wp2
      go_roundw
      case rel => exact ⟨i + 1, by omega, by go_num, e9⟩
      case measure => simp [intOf]; omega
    · obtain rfl : i = n := by omega
      have hlI : ¬ (i : Int) < (i : Int) := by omega
      clear hlt hin
      go_wp2
      go_ret
      exact ⟨rfl, hbel⟩
end Go.Proofs.YtmpefofifbehjaaDoor
/-
  Stores, and their values, that are compared with themselves.
-/
namespace Go.Proofs.YtmpefofifbehjaaDoor
open Go.RowKit
set_option linter.unusedVariables false

/-- rows of which each item is the same -/
theorem items_self {P : Program} {w : World} {d c : Nat} {e : TypeId} {xs : Array Value} : ∀ l : List Nat, (∀ i ∈ l, ∃ v, (part e xs (i * c)).run P w = .ok v w ∧ (Op.equalIn d e v v).run P w = .ok true w) → (Op.eqItems d e c xs xs l).run P w = .ok true w
  | [], _ => by simp [Op.eqItems]
  | i :: l, h => by
    obtain ⟨v, h1, h2⟩ := h i (List.mem_cons_self ..)
    have ih := items_self l (fun j hj => h j (List.mem_cons_of_mem _ hj))
    simp [Op.eqItems, Sem.run_bind, h1, h2, ih, Result.andThen_ok]
set_option maxRecDepth 100000 in
theorem va_part (f : Nat → Int) (i : Nat) (hi : i < 8) (w : World) : (part 3 (vaA f) (i * 1)).run Tryd.prog w = .ok (.int .i64 (f i)) w := by
  rcases (by omega : i = 0 ∨ i = 1 ∨ i = 2 ∨ i = 3 ∨ i = 4 ∨ i = 5 ∨ i = 6 ∨ i = 7) with rfl | rfl | rfl | rfl | rfl | rfl | rfl | rfl
  all_goals kernel_rfl
set_option maxRecDepth 100000 in
theorem va_self (f : Nat → Int) (d : Nat) (w : World) : (Op.equalIn (d + 2) 22 (.agg (vaA f)) (.agg (vaA f))).run Tryd.prog w = .ok true w := by
  rw [run_equalIn_array (P := Tryd.prog) w (d + 1) (t := 22) (e := 3) (n := 8) (vaA f) (vaA f) Tryd.underlying22 (show Tryd.prog.info? 3 = some _ from rfl)]
  rw [show Tryd.prog.cellsOf 3 = 1 by kernel_rfl]
  refine items_self _ (fun i hi => ⟨.int .i64 (f i), ?_, ?_⟩)
  · exact va_part f i (by simpa using hi) w
  · rw [run_equalIn_int w d 3 .i64 .i64 _ _ Tryd.underlying3]
    simp
/-- who is revoked -/
def boA (f : Nat → Bool) : Array Value := #[.bool (f 0), .bool (f 1), .bool (f 2), .bool (f 3), .bool (f 4), .bool (f 5), .bool (f 6), .bool (f 7)]
set_option maxRecDepth 100000 in
theorem bo_part (f : Nat → Bool) (i : Nat) (hi : i < 8) (w : World) : (part 4 (boA f) (i * 1)).run Tryd.prog w = .ok (.bool (f i)) w := by
  rcases (by omega : i = 0 ∨ i = 1 ∨ i = 2 ∨ i = 3 ∨ i = 4 ∨ i = 5 ∨ i = 6 ∨ i = 7) with rfl | rfl | rfl | rfl | rfl | rfl | rfl | rfl
  all_goals kernel_rfl
set_option maxRecDepth 100000 in
theorem bo_self (f : Nat → Bool) (d : Nat) (w : World) : (Op.equalIn (d + 2) 27 (.agg (boA f)) (.agg (boA f))).run Tryd.prog w = .ok true w := by
  rw [run_equalIn_array (P := Tryd.prog) w (d + 1) (t := 27) (e := 4) (n := 8) (boA f) (boA f) Tryd.underlying27 (show Tryd.prog.info? 4 = some _ from rfl)]
  rw [show Tryd.prog.cellsOf 4 = 1 by kernel_rfl]
  refine items_self _ (fun i hi => ⟨.bool (f i), ?_, ?_⟩)
  · exact bo_part f i (by simpa using hi) w
  · rw [run_equalIn_bool w d 4 _ _ Tryd.underlying4]
    simp
/-- answers, by clients -/
def anA (c a : Nat → Int) : Array Value := #[.int .i64 (c 0), .int .i64 (a 0), .int .i64 (c 1), .int .i64 (a 1), .int .i64 (c 2), .int .i64 (a 2), .int .i64 (c 3), .int .i64 (a 3), .int .i64 (c 4), .int .i64 (a 4), .int .i64 (c 5), .int .i64 (a 5), .int .i64 (c 6), .int .i64 (a 6), .int .i64 (c 7), .int .i64 (a 7)]
set_option maxRecDepth 100000 in
theorem an_one (c a : Int) (d : Nat) (w : World) : (Op.equalIn (d + 2) 25 (.agg #[.int .i64 c, .int .i64 a]) (.agg #[.int .i64 c, .int .i64 a])).run Tryd.prog w = .ok true w := by
  rw [run_equalIn_agg w (d + 1) _ _ _ (by kernel_rfl) (by kernel_rfl)]
  unfold Program.fieldsOf
  rw [Tryd.underlying25]
  have h3 := Tryd.underlying3
  have hE := Tryd.underlying23
  simp [Op.eqFields, go_sem, h3, hE]
set_option maxRecDepth 100000 in
theorem an_part (c a : Nat → Int) (i : Nat) (hi : i < 8) (w : World) : (part 25 (anA c a) (i * 2)).run Tryd.prog w = .ok (.agg #[.int .i64 (c i), .int .i64 (a i)]) w := by
  rcases (by omega : i = 0 ∨ i = 1 ∨ i = 2 ∨ i = 3 ∨ i = 4 ∨ i = 5 ∨ i = 6 ∨ i = 7) with rfl | rfl | rfl | rfl | rfl | rfl | rfl | rfl
  all_goals kernel_rfl
set_option maxRecDepth 100000 in
theorem an_self (c a : Nat → Int) (d : Nat) (w : World) : (Op.equalIn (d + 3) 26 (.agg (anA c a)) (.agg (anA c a))).run Tryd.prog w = .ok true w := by
  rw [run_equalIn_array (P := Tryd.prog) w (d + 2) (t := 26) (e := 25) (n := 8) (anA c a) (anA c a) Tryd.underlying26 (show Tryd.prog.info? 25 = some _ from rfl)]
  rw [show Tryd.prog.cellsOf 25 = 2 by kernel_rfl]
  refine items_self _ (fun i hi => ⟨.agg #[.int .i64 (c i), .int .i64 (a i)], ?_, an_one _ _ _ _⟩)
  exact an_part c a i (by simpa using hi) w
set_option maxRecDepth 100000 in
theorem st_self (s : Sto) (d : Nat) (w : World) : (Op.equalIn (d + 4) 29 (.agg (stA s)) (.agg (stA s))).run Tryd.prog w = .ok true w := by
  rw [run_equalIn_agg w (d + 3) _ _ _ (by kernel_rfl) (by kernel_rfl)]
  unfold Program.fieldsOf
  rw [Tryd.underlying29]
  have p0 : (part 22 (stA s) 0).run Tryd.prog w = .ok (.agg (vaA s.V)) w := by kernel_rfl
  have p1 : (part 22 (stA s) 8).run Tryd.prog w = .ok (.agg (vaA s.L)) w := by kernel_rfl
  have p2 : (part 26 (stA s) 16).run Tryd.prog w = .ok (.agg (anA s.C s.A)) w := by kernel_rfl
  have p3 : (part 27 (stA s) 32).run Tryd.prog w = .ok (.agg (boA s.R)) w := by kernel_rfl
  have e0 := va_self s.V (d + 1) w
  have e1 := va_self s.L (d + 1) w
  have e2 := an_self s.C s.A d w
  have e3 := bo_self s.R (d + 1) w
  simp [Op.eqFields, Sem.run_bind, p0, p1, p2, p3, e0, e1, e2, e3, Result.andThen_ok]
theorem eql_st (s : Sto) : ∀ w, (binOp .eql 29 (.agg (stA s)) (.agg (stA s))).run Tryd.prog w = .ok (.bool true) w := by
  intro w
  rw [run_eql_struct, st_self s 9996 w]
  rfl
theorem neq_st (s : Sto) : ∀ w, (binOp .neq 29 (.agg (stA s)) (.agg (stA s))).run Tryd.prog w = .ok (.bool false) w := by
  intro w
  rw [run_neq_struct, st_self s 9996 w]
  rfl
theorem neq_va (f : Nat → Int) : ∀ w, (binOp .neq 22 (.agg (vaA f)) (.agg (vaA f))).run Tryd.prog w = .ok (.bool false) w := by
  intro w
  rw [run_neq_struct, va_self f 9998 w]
  rfl
end Go.Proofs.YtmpefofifbehjaaDoor
/-
  Arguments that are lists of commands, as the walks take them.
-/
namespace Go.Proofs.YtmpefofifbehjaaDoor
open Go.RowKit Go.ChangeShapes Go.WideShapes Go.ChangeAt
set_option linter.unusedVariables false

theorem sized_at10 {H : Type} {P : Program} {ts : List TypeId} {ds : List (DataW H)} (h : (DataW.weightsEach P ts ds).all (· ≤ reachBytes) = true) {j : Nat} {t : TypeId} {d : DataW H} (ht : ts[j]? = some t) (hd : ds[j]? = some d) : (DataW.weights P t d).all (· ≤ reachBytes) = true :=
  List.all_eq_true.2 fun x hx => List.all_eq_true.1 h x (DataW.weights_mem_each ht hd x hx)
instance : Inhabited Cmd := ⟨⟨0, 0, 0, 0, 0⟩⟩
theorem cellCy : Tryd.prog.cellsOf 31 = 5 := by kernel_rfl
theorem byteCy : Tryd.prog.bytesOf 31 = 40 := by kernel_rfl
set_option maxRecDepth 100000 in
theorem cmd_read {H : Type} {enc : TypeId × Value → H} {W : World} {base : Nat} {sp : Nat → Bool} {held : Bool} {fuel : Nat} {cs : List Value} {x : DataW H × List MemPlace}
    (h : DataW.trod enc Tryd.prog W base sp held fuel 31 cs = some x) : ∃ v, cs = cyC v := by
  obtain ⟨y0, y1, y2, y3, y4, m, _, hl, h0, h1, h2, h3, h4⟩ := trod_struct5 Tryd.underlying31 h
  rw [cellCy] at hl
  simp only [cell3o] at h0 h1 h2 h3 h4
  match cs, hl with
  | [c0, c1, c2, c3, c4], _ =>
    obtain ⟨a0, e0, _, w0⟩ := DataW.trod_int Tryd.underlying3 h0
    obtain ⟨a1, e1, _, w1⟩ := DataW.trod_int Tryd.underlying3 h1
    obtain ⟨a2, e2, _, w2⟩ := DataW.trod_int Tryd.underlying3 h2
    obtain ⟨a3, e3, _, w3⟩ := DataW.trod_int Tryd.underlying3 h3
    obtain ⟨a4, e4, _, w4⟩ := DataW.trod_int Tryd.underlying3 h4
    simp at e0 e1 e2 e3 e4
    subst e0 e1 e2 e3 e4
    exact ⟨⟨a0, a1, a2, a3, a4⟩, rfl⟩
set_option maxRecDepth 100000 in
/-- a slice of commands -/
theorem Sq.opened {H : Type} {enc : TypeId × Value → H} {W : World} {fuel : Nat} {x : Value} {d : DataW H} {p : List MemPlace}
    (hf : DataW.trod enc Tryd.prog W 0 (fun _ => true) true fuel 35 [x] = some (d, p)) (hsz : (DataW.weights Tryd.prog 35 d).all (· ≤ reachBytes) = true) : ∃ f n, Sq W x f n := by
  rcases Deep.open_slice Tryd.underlying35 hf with ⟨h1, _⟩ | ⟨a, len, cap, m, n, D, Pl, h1, hb, hl, hm, hmm, hx, hel⟩
  · simp at h1
    subst h1
    exact ⟨fun _ => default, 0, ⟨none, 0, rfl, .inl rfl⟩, by simp⟩
  · simp at h1
    subst h1
    simp only [if_true] at hmm
    have hd := congrArg Prod.fst hx
    simp only at hd
    subst hd
    have hz : len * 40 ≤ reachBytes := by
      have h := hsz
      rw [DataW.weights, Tryd.underlying35] at h
      simp only [List.all_cons, List.all_append, Bool.and_eq_true, decide_eq_true_eq, List.length_map, List.length_range, byteCy] at h
      have := h.1
      omega
    have hlen : len ≤ 3518437208883 := by simp only [reachBytes] at hz; omega
    rw [cellCy] at hel
    have hin : ∀ i, i < len → ∃ v, (∀ j u, (cyC v)[j]? = some u → W.cell? ((a.add (i * 5)).add j) = some u) := by
      intro i hi
      obtain ⟨cs', h1, h2⟩ := hel i (by omega)
      obtain ⟨v, rfl⟩ := cmd_read h2
      obtain ⟨_, _, h3⟩ := World.cells?_some h1
      refine ⟨v, fun j u hj => ?_⟩
      have hj8 : j < 5 := (List.getElem?_eq_some_iff.1 hj).1
      rw [h3 j hj8, hj]
    obtain ⟨f, hff⟩ := Deep.choose_lt hin
    refine ⟨f, len, ⟨some a, cap, rfl, ?_⟩, hlen⟩
    by_cases h0 : len = 0
    · exact .inl h0
    · right
      obtain ⟨b, off, spot⟩ := a
      have hc0 := (hff 0 (by omega)) 0 _ rfl
      have hspot : spot = none := by simpa [Addr.add] using World.cell?_spot hc0
      subst hspot
      have hadd : ∀ k, (⟨b, off, none⟩ : Addr).add k = ⟨b, off + k, none⟩ := fun k => by unfold Addr.add; split <;> simp_all
      have hadd2 : ∀ k j, (⟨b, off + k, none⟩ : Addr).add j = ⟨b, off + k + j, none⟩ := fun k j => by unfold Addr.add; split <;> simp_all
      refine ⟨b, off, rfl, ?_, fun i hi j u hj => ?_⟩
      · rw [hadd, hadd2] at hc0
        exact World.block_lt_of_cell? W _ hc0
      · have h4 := hff i hi j u hj
        rw [hadd, hadd2] at h4
        rwa [show off + 5 * i + j = off + i * 5 + j by omega]
end Go.Proofs.YtmpefofifbehjaaDoor
