/-
  The places of entries. No function of the program is named here.
-/
import Derived.Test.YtmpefofifbehjaaDoorKg15
import Derived.Test.YtmpefofifbehjaaDoorKg2
import Derived.Test.YtmpefofifbehjaaDoorKg6
import Derived.Test.YtmpefofifbehjaaDoorKg8
namespace Go.Proofs.YtmpefofifbehjaaDoor
open Go.RowKit
set_option linter.unusedVariables false

theorem elemEn : Tryd.prog.elem 36 = 64 := by kernel_rfl
theorem size8e (w : World) : (Go.sizeOf 64).run Tryd.prog w = .ok 8 w := by
  have h : (Tryd.prog.info? 64).map (·.size) = some 8 := by kernel_rfl
  cases hi : Tryd.prog.info? 64 with
  | none => rw [hi] at h; cases h
  | some i =>
    rw [hi] at h
    simp at h
    simp [sizeOf, typeInfo, hi, h]
set_option maxRecDepth 100000 in
theorem runIndexE (b o n c : Nat) (i : Nat) (hi : i < n) (w : World) : (Instr.indexAt 36 (.slice (some ⟨b, o, none⟩) n c) (.int .i64 (i : Int))).run Tryd.prog w = .ok (.pointer (some ⟨b, o + 8 * i, none⟩)) w := by
  rw [run_indexAt_slice (P := Tryd.prog) w 36 _ n c .i64 _ Tryd.underlying36, if_pos ⟨by omega, by omega⟩, elemEn, size8e]
  simp [Result.andThen, Addr.add_mid, Nat.mul_comm]
end Go.Proofs.YtmpefofifbehjaaDoor
/-
  Slices of entries: what they read as, and which are right. No function of the program is named here.
-/
namespace Go.Proofs.YtmpefofifbehjaaDoor
open Go.RowKit
set_option linter.unusedVariables false

/-- the cells of an entry, its sum a slice value -/
def enV (e : Ent) (x : Value) : List Value := [.int .i64 e.m.k, .int .i64 e.m.c, .int .i64 e.m.s, .int .i64 e.m.n, .int .i64 e.m.v, .int .i64 e.c, .int .i64 e.a, x]
/-- a slice value reads as so many entries -/
structure Se (w : World) (x : Value) (F : Nat → Ent) (n : Nat) : Prop where
  ex : ∃ a cap, x = .slice a n cap ∧ (n = 0 ∨ ∃ b off, a = some ⟨b, off, none⟩ ∧ b < w.heap.size ∧ ∀ i, i < n → ∃ y, w.rangeAt b (off + 8 * i) (enV (F i) y) ∧ Sl w y (F i).g)
  len : n ≤ 1759218604441
theorem Se.below {w w' : World} {x : Value} {F : Nat → Ent} {n : Nat} (h : Se w x F n) (hb : Below w.heap.size w w') : Se w' x F n := by
  obtain ⟨⟨a, cap, rfl, h1⟩, h2⟩ := h
  refine ⟨⟨a, cap, rfl, ?_⟩, h2⟩
  rcases h1 with h1 | ⟨b, off, ha, hbs, hcell⟩
  · exact .inl h1
  · refine .inr ⟨b, off, ha, Nat.lt_of_lt_of_le hbs hb.size, fun i hi => ?_⟩
    obtain ⟨y, h3, h4⟩ := hcell i hi
    exact ⟨y, fun j u hj => (hb.cell (p := ⟨b, off + 8 * i + j, none⟩) hbs).trans (h3 j u hj), h4.below hb⟩
theorem Se.shape {w : World} {x : Value} {F : Nat → Ent} {n : Nat} (h : Se w x F n) : ∃ a cap, x = .slice a n cap := by
  obtain ⟨⟨a, cap, e, _⟩, _⟩ := h
  exact ⟨a, cap, e⟩
theorem Se.spot {w : World} {a : Option Addr} {n cap : Nat} {F : Nat → Ent} (h : Se w (.slice a n cap) F n) (i : Nat) (hi : i < n) : ∃ b off xa xm xp, a = some ⟨b, off, none⟩ ∧ b < w.heap.size ∧ w.rangeAt b (off + 8 * i) (enV (F i) (.slice xa xm xp)) ∧ Sl w (.slice xa xm xp) (F i).g := by
  obtain ⟨⟨a', cap', e, h1⟩, _⟩ := h
  simp only [Value.slice.injEq] at e
  obtain ⟨rfl, _, rfl⟩ := e
  rcases h1 with rfl | ⟨b, off, rfl, hb, hcell⟩
  · omega
  · obtain ⟨y, h3, h4⟩ := hcell i hi
    obtain ⟨xa, xp, rfl⟩ := h4.shapeT
    exact ⟨b, off, xa, _, xp, rfl, hb, h3, h4⟩
/-- an entry that is the one that a chain of the commands has -/
def AudOk (F : Nat → Ent) (i : Nat) : Prop := (F i).m.e = 0 ∧ cAt (fun j => (F j).m) i = (F i).c ∧ aAt (fun j => (F j).m) i = (F i).a ∧ gAt (fun j => (F j).m) (i + 1) = (F i).g
/-- what an audit finds -/
def AudP (F : Nat → Ent) (n : Nat) (p : Int) : Prop := (p = -1 ∧ ∀ i, i < n → AudOk F i) ∨ ∃ i, i < n ∧ p = (i : Int) ∧ (∀ j, j < i → AudOk F j) ∧ ¬ AudOk F i
theorem range_pre {w : World} {b o : Nat} {cs : List Value} (h : w.rangeAt b o cs) (k : Nat) : w.rangeAt b o (cs.take k) := fun j u hj => h j u (by
  rw [List.getElem?_take] at hj
  split at hj
  · exact hj
  · cases hj)
/-- a chain is right -/
theorem enAt_aud (f : Nat → Cmd) {i : Nat} (h : (f i).e = 0) : AudOk (enAt f) i := ⟨h, rfl, rfl, rfl⟩
theorem AudP.right {F : Nat → Ent} {n : Nat} {p : Int} (h : AudP F n p) (ok : ∀ j, j < n → AudOk F j) : p = -1 := by
  rcases h with ⟨h1, _⟩ | ⟨i, hi, _, _, hn⟩
  · exact h1
  · exact absurd (ok i hi) hn
theorem AudP.first {F : Nat → Ent} {n k : Nat} {p : Int} (h : AudP F n p) (hk : k < n) (ok : ∀ j, j < k → AudOk F j) (hn : ¬ AudOk F k) : p = (k : Int) := by
  rcases h with ⟨_, h2⟩ | ⟨i, hi, hp, h1, h2⟩
  · exact absurd (h2 k hk) hn
  · have : i = k := by
      rcases Nat.lt_trichotomy i k with a | a | a
      · exact absurd (ok i a) h2
      · exact a
      · exact absurd (h1 k a) hn
    rw [hp, this]
theorem AudOk.congr {F F' : Nat → Ent} {i : Nat} (h : ∀ j, j < i + 1 → F j = F' j) : AudOk F i ↔ AudOk F' i := by
  have h1 := enAt_congr (f := fun j => (F j).m) (f' := fun j => (F' j).m) (i := i) (fun j hj => by rw [h j hj])
  unfold AudOk
  rw [h i (by omega), h1.1, h1.2.1, h1.2.2]
end Go.Proofs.YtmpefofifbehjaaDoor
/-
  The walk of sha.Same.
-/
namespace Go.Proofs.YtmpefofifbehjaaDoor
open Go.RowKit



def dif (la lb : List Int) : Nat → Int
  | 0 => 0
  | k + 1 => bits .or .u8 (dif la lb k) (bits .xor .u8 (la.getD k 0) (lb.getD k 0))

theorem or_zero {a b : Nat} : a ||| b = 0 ↔ a = 0 ∧ b = 0 := by
  constructor
  · intro h
    have h1 : ∀ i, (a ||| b).testBit i = false := by intro i; rw [h]; simp
    constructor
    · apply Nat.eq_of_testBit_eq; intro i; have := h1 i; rw [Nat.testBit_or] at this; simp at this; simp [this.1]
    · apply Nat.eq_of_testBit_eq; intro i; have := h1 i; rw [Nat.testBit_or] at this; simp at this; simp [this.2]
  · rintro ⟨rfl, rfl⟩; rfl

theorem xor_zero {a b : Nat} : a ^^^ b = 0 ↔ a = b := by
  constructor
  · intro h
    have h1 : ∀ i, (a ^^^ b).testBit i = false := by intro i; rw [h]; simp
    apply Nat.eq_of_testBit_eq; intro i; have := h1 i; rw [Nat.testBit_xor] at this; simpa using this
  · rintro rfl; simp

theorem dif_zero {la lb : List Int} (ha : ∀ x ∈ la, 0 ≤ x ∧ x < 256) (hb : ∀ x ∈ lb, 0 ≤ x ∧ x < 256) (k : Nat) :
    0 ≤ dif la lb k ∧ dif la lb k < 256 ∧ (dif la lb k = 0 ↔ ∀ i, i < k → la.getD i 0 = lb.getD i 0) := by
  induction k with
  | zero => simp [dif]
  | succ k ih =>
    obtain ⟨h1, h2, h3⟩ := ih
    have hx := getD_byte ha k
    have hy := getD_byte hb k
    have e1 := u8_xor _ _ hx.1 hx.2 hy.1 hy.2
    have hlt : (la.getD k 0).toNat ^^^ (lb.getD k 0).toNat < 256 := Nat.xor_lt_two_pow (n := 8) (by omega) (by omega)
    have e2 := u8_or (dif la lb k) (((la.getD k 0).toNat ^^^ (lb.getD k 0).toNat : Nat) : Int) h1 h2 (by omega) (by omega)
    have e3 : dif la lb (k + 1) = (((dif la lb k).toNat ||| ((la.getD k 0).toNat ^^^ (lb.getD k 0).toNat) : Nat) : Int) := by
      show bits .or .u8 (dif la lb k) (bits .xor .u8 (la.getD k 0) (lb.getD k 0)) = _
      rw [e1, e2]; simp
    have hlt2 : (dif la lb k).toNat ||| ((la.getD k 0).toNat ^^^ (lb.getD k 0).toNat) < 256 := Nat.or_lt_two_pow (n := 8) (by omega) hlt
    refine ⟨by rw [e3]; omega, by rw [e3]; omega, ?_⟩
    have e4 : dif la lb (k + 1) = 0 ↔ dif la lb k = 0 ∧ la.getD k 0 = lb.getD k 0 := by
      rw [e3]
      have := @or_zero (dif la lb k).toNat ((la.getD k 0).toNat ^^^ (lb.getD k 0).toNat)
      have h5 := @xor_zero (la.getD k 0).toNat (lb.getD k 0).toNat
      rw [h5] at this
      constructor
      · intro h
        have := this.1 (by omega)
        omega
      · intro h
        have := this.2 (by omega)
        omega
    rw [e4, h3]
    constructor
    · intro h i hi
      rcases Nat.lt_or_ge i k with h' | h'
      · exact h.1 i h'
      · obtain rfl : i = k := by omega
        exact h.2
    · intro h
      exact ⟨fun i hi => h i (by omega), h k (by omega)⟩

theorem dif_all {la lb : List Int} (ha : ∀ x ∈ la, 0 ≤ x ∧ x < 256) (hb : ∀ x ∈ lb, 0 ≤ x ∧ x < 256) (hl : la.length = lb.length) : (dif la lb lb.length == 0) = decide (la = lb) := by
  rw [Bool.eq_iff_iff, decide_eq_true_iff, beq_iff_eq, (dif_zero ha hb _).2.2]
  constructor
  · intro h
    apply List.ext_getElem hl
    intro i h1 h2
    have := h i h2
    rwa [getD_at h1, getD_at h2] at this
  · rintro rfl _ _; rfl

theorem same_any (va vb : Value) (la lb : List Int) (w : World) (ha : Sl w va la) (hb : Sl w vb lb) :
    Calls Tryd.prog 43 #[va, vb] w fun e w' => e = .returned (.bool (decide (la = lb))) ∧ ∃ n, w' = w.drewN n := by
  obtain ⟨⟨a, cap, rfl, hc, hn, h1⟩, hla, hba⟩ := ha
  obtain ⟨⟨b, cap', rfl, hc', hn', h1'⟩, hlb, hbb⟩ := hb
  by_cases hl : la.length = lb.length
  · rcases h1 with rfl | ⟨ba, oa, rfl, _, hca⟩
    · obtain rfl : lb = [] := List.eq_nil_of_length_eq_zero (by simpa using hl.symm)
      go_enter Tryd.func43, Tryd.ntmps43
      go_wp2
      refine wp_loop_rounds 1 ?_
      rw [rounds_succ]
      go_wp2
      go_ret
      exact ⟨rfl, 0, rfl⟩
    · rcases h1' with rfl | ⟨bb, ob, rfl, _, hcb⟩
      · obtain rfl : la = [] := List.eq_nil_of_length_eq_zero (by simpa using hl)
        go_enter Tryd.func43, Tryd.ntmps43
        go_wp2
        refine wp_loop_rounds 1 ?_
        rw [rounds_succ]
        go_wp2
        go_ret
        exact ⟨rfl, 0, rfl⟩
      · have HD : Hid ((dif la lb lb.length == 0) = decide (la = lb)) := dif_all hba hbb hl
        go_enter Tryd.func43, Tryd.ntmps43
        go_wp2
        go_loopw [5, 14] (fun d i wr => ∃ k n : Nat, k ≤ lb.length ∧ i = .int .i64 k ∧ d = .int .u8 (dif la lb k) ∧ wr = w.drewN n) (fun _ i _ => lb.length - (intOf i).toNat)
        case atStart => exact ⟨0, 0, Nat.zero_le _, rfl, rfl, rfl⟩
        case round =>
          obtain ⟨k, n, hk, rfl, rfl, rfl⟩ := hrel
          by_cases hlt : k < lb.length
          · have hx := hca k (by omega)
            have hy := hcb k hlt
            clear hca hcb hba hbb
            have hka : k < la.length := by omega
            go_wp2
            go_quiet (fail)
            go_wp2
            go_roundw
            case rel => exact ⟨k + 1, _, by omega, by go_num, by simp only [dif, getD_at hka, getD_at hlt], rfl⟩
            case measure => simp [intOf]; omega
          · obtain rfl : k = lb.length := by omega
            clear hca hcb
            go_wp2
            go_ret
            exact ⟨ret_bool HD.out, n, rfl⟩
  · have hne : ((la.length : Int) == (lb.length : Int)) = false := by simp; omega
    have hdd : decide (la = lb) = false := decide_eq_false (fun e => hl (by rw [e]))
    go_enter Tryd.func43, Tryd.ntmps43
    go_wp2
    go_ret
    exact ⟨ret_bool hdd.symm, 0, rfl⟩

end Go.Proofs.YtmpefofifbehjaaDoor
/-
  The walk of entries that are compared.
-/
namespace Go.Proofs.YtmpefofifbehjaaDoor
open Go.RowKit
set_option linter.unusedVariables false

set_option maxHeartbeats 2000000 in
set_option maxRecDepth 100000 in
theorem vsame_any (k1 c1 q1 n1 v1 C1 A1 k2 c2 q2 n2 v2 C2 A2 : Int) (x1 x2 : Option Addr) (m1 p1 m2 p2 : Nat) (l1 l2 : List Int) (w : World) (h1 : Sl w (.slice x1 m1 p1) l1) (h2 : Sl w (.slice x2 m2 p2) l2) :
    Calls Tryd.prog 32 #[.agg #[.int .i64 k1, .int .i64 c1, .int .i64 q1, .int .i64 n1, .int .i64 v1, .int .i64 C1, .int .i64 A1, .slice x1 m1 p1], .agg #[.int .i64 k2, .int .i64 c2, .int .i64 q2, .int .i64 n2, .int .i64 v2, .int .i64 C2, .int .i64 A2, .slice x2 m2 p2]] w fun e w' => e = .returned (.bool (decide (C1 = C2 ∧ A1 = A2 ∧ l1 = l2))) ∧ Below w.heap.size w w' := by
  obtain ⟨W0, hW0⟩ : ∃ W0, (w.alloc (.cells #[.int .i64 k1, .int .i64 c1, .int .i64 q1, .int .i64 n1, .int .i64 v1, .int .i64 C1, .int .i64 A1, .slice x1 m1 p1] 64)).alloc (.cells #[.int .i64 k2, .int .i64 c2, .int .i64 q2, .int .i64 n2, .int .i64 v2, .int .i64 C2, .int .i64 A2, .slice x2 m2 p2] 64) = W0 := ⟨_, rfl⟩
  have r0_a : W0.heap[w.heap.size]? = some (.cells #[.int .i64 k1, .int .i64 c1, .int .i64 q1, .int .i64 n1, .int .i64 v1, .int .i64 C1, .int .i64 A1, .slice x1 m1 p1] 64) := by rw [← hW0]; exact t_alloc2_0 _ _ _
  have r0_b : W0.heap[w.heap.size + 1]? = some (.cells #[.int .i64 k2, .int .i64 c2, .int .i64 q2, .int .i64 n2, .int .i64 v2, .int .i64 C2, .int .i64 A2, .slice x2 m2 p2] 64) := by rw [← hW0]; exact t_alloc2_1 _ _ _
  have bb : Below w.heap.size w W0 := by rw [← hW0]; exact t_allocB2 _ _ _
  have l0_a : w.heap.size < W0.heap.size := (Array.getElem?_eq_some_iff.1 r0_a).1
  have l0_b : (w.heap.size + 1) < W0.heap.size := (Array.getElem?_eq_some_iff.1 r0_b).1
  have sl0_a := h1.below bb
  have sl0_b := h2.below bb
  go_enter Tryd.func32, Tryd.ntmps32
  have cc1_a0 : W0.cell? ⟨w.heap.size, 0, none⟩ = some (.int .i64 k1) := cell_of_row _ _ 0 _ _ _ r0_a
  have cc1_a1 : W0.cell? ⟨w.heap.size, 1, none⟩ = some (.int .i64 c1) := cell_of_row _ _ 1 _ _ _ r0_a
  have cc1_a2 : W0.cell? ⟨w.heap.size, 2, none⟩ = some (.int .i64 q1) := cell_of_row _ _ 2 _ _ _ r0_a
  have cc1_a3 : W0.cell? ⟨w.heap.size, 3, none⟩ = some (.int .i64 n1) := cell_of_row _ _ 3 _ _ _ r0_a
  have cc1_a4 : W0.cell? ⟨w.heap.size, 4, none⟩ = some (.int .i64 v1) := cell_of_row _ _ 4 _ _ _ r0_a
  have cc1_a5 : W0.cell? ⟨w.heap.size, 5, none⟩ = some (.int .i64 C1) := cell_of_row _ _ 5 _ _ _ r0_a
  have cc1_a6 : W0.cell? ⟨w.heap.size, 6, none⟩ = some (.int .i64 A1) := cell_of_row _ _ 6 _ _ _ r0_a
  have cc1_a7 : W0.cell? ⟨w.heap.size, 7, none⟩ = some (.slice x1 m1 p1) := cell_of_row _ _ 7 _ _ _ r0_a
  have cc2_b0 : W0.cell? ⟨(w.heap.size + 1), 0, none⟩ = some (.int .i64 k2) := cell_of_row _ _ 0 _ _ _ r0_b
  have cc2_b1 : W0.cell? ⟨(w.heap.size + 1), 1, none⟩ = some (.int .i64 c2) := cell_of_row _ _ 1 _ _ _ r0_b
  have cc2_b2 : W0.cell? ⟨(w.heap.size + 1), 2, none⟩ = some (.int .i64 q2) := cell_of_row _ _ 2 _ _ _ r0_b
  have cc2_b3 : W0.cell? ⟨(w.heap.size + 1), 3, none⟩ = some (.int .i64 n2) := cell_of_row _ _ 3 _ _ _ r0_b
  have cc2_b4 : W0.cell? ⟨(w.heap.size + 1), 4, none⟩ = some (.int .i64 v2) := cell_of_row _ _ 4 _ _ _ r0_b
  have cc2_b5 : W0.cell? ⟨(w.heap.size + 1), 5, none⟩ = some (.int .i64 C2) := cell_of_row _ _ 5 _ _ _ r0_b
  have cc2_b6 : W0.cell? ⟨(w.heap.size + 1), 6, none⟩ = some (.int .i64 A2) := cell_of_row _ _ 6 _ _ _ r0_b
  have cc2_b7 : W0.cell? ⟨(w.heap.size + 1), 7, none⟩ = some (.slice x2 m2 p2) := cell_of_row _ _ 7 _ _ _ r0_b
  have e1 := eql_an C1 A1 C2 A2
  by_cases hA : C1 = C2 ∧ A1 = A2
  · rw [decide_eq_true hA] at e1
    have HA : Hid (C1 = C2 ∧ A1 = A2) := hA
    clear hA
    go_wp2_with fail
    clear hW0
    refine (same_any _ _ l1 l2 W0 sl0_a sl0_b).mono ?_
    rintro e w2 ⟨rfl, nd, rfl⟩
    have dd := below_drewN bb nd
    have HE : Hid (decide (l1 = l2) = decide (C1 = C2 ∧ A1 = A2 ∧ l1 = l2)) := by unfold Hid; rw [decide_eq_decide]; exact ⟨fun h => ⟨HA.out.1, HA.out.2, h⟩, fun h => h.2.2⟩
    generalize decide (l1 = l2) = B at HE ⊢
    go_wp2
    go_ret
    rw [← HE.out]
    exact ⟨rfl, dd⟩
  · rw [decide_eq_false hA] at e1
    have HE : Hid (decide (C1 = C2 ∧ A1 = A2 ∧ l1 = l2) = false) := decide_eq_false (fun h => hA ⟨h.1, h.2.1⟩)
    clear hA
    go_wp2
    go_ret
    rw [HE.out]
    exact ⟨rfl, bb⟩
end Go.Proofs.YtmpefofifbehjaaDoor
