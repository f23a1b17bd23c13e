/-
  The raw numbers of commands and tokens, and what is made of them.
-/
import Derived.Test.YtmpefofifbehjabDoorKe15
import Derived.Test.YtmpefofifbehjabDoorKe16
import Derived.Test.YtmpefofifbehjabDoorKe7
import Derived.Test.YtmpefofifbehjabDoorKe9
import Derived.Test.YtmpefofifbehjabDoorKe10
import Derived.Test.YtmpefofifbehjabDoorKe11
import Derived.Test.YtmpefofifbehjabDoorKe14
import Derived.Test.YtmpefofifbehjabDoorKe1
namespace Go.Proofs.YtmpefofifbehjabDoor
open Go.RowKit
set_option linter.unusedVariables false

def wK (a : Int) : Int := 1 + pick a 5 / 2
def wV (a e : Int) : Int := if wK a = 1 then pick e 1000 else 0
theorem wK_range (a : Int) : 1 ≤ wK a ∧ wK a ≤ 3 := by
  have := pick_range a 5 (by omega)
  unfold wK
  omega
theorem wV_range (a e : Int) : 0 ≤ wV a e ∧ wV a e ≤ 1000 := by
  have := pick_range e 1000 (by omega)
  unfold wV
  split <;> omega
theorem wish_in (a b c d e : Int) (c' s' : Int) (hc : 0 ≤ c' ∧ c' ≤ 7) (hs : 0 ≤ s' ∧ s' ≤ 1048576) : comE (wK a) c' s' (pick d 4) (wV a e) = 0 := by
  have h1 := wK_range a
  have h2 := pick_range d 4 (by omega)
  have h3 := wV_range a e
  refine comE_ok h1 (by unfold InC; omega) ?_
  unfold wV
  split
  · exact .inl (by assumption)
  · exact .inr rfl
theorem pass_in (a b c : Int) : TokB (pick a 8) (pick b 8) (pick c 1048577) := by
  have h1 := pick_range a 8 (by omega)
  have h2 := pick_range b 8 (by omega)
  have h3 := pick_range c 1048577 (by omega)
  exact ⟨by omega, by omega, by omega⟩
theorem I64.picked {n : Int} (h : I64 n) (many : Int) (w : World) (h0 : 0 < many) (h1 : many ≤ 2000000) : Calls Tryd.prog 10 #[.int .i64 n, .int .i64 many] w fun e w' => e = .returned (.int .i64 (pick n many)) ∧ w' = w :=
  picked_any n many w h.1 h.2 h0 (by omega)
theorem yieldHalf {ops : Array Oper} {S : World → Prop} {op : Oper} {a : Act} (hw : Region.wanted op (yielded ops a.tmps) = true) (x : Operand) (ho : op.op = .binOp .quo 3 x (.const (.int .i64 2)) 3) (p : Int) (hx : a.eval x = .int .i64 p) (h0 : 0 ≤ p) (h1 : p ≤ 1000) :
    YieldsIf Tryd.prog ops S op (.int .i64 (p / 2)) a :=
  .inl ⟨hw, fun w _ => by
    obtain ⟨m, rfl⟩ := Int.eq_ofNat_of_zero_le h0
    unfold execOp
    simp only [ho, hx]
    simp [go_sem]
    rw [IntKind.wrap_i64]
    omega⟩
theorem yieldUp {ops : Array Oper} {S : World → Prop} {op : Oper} {a : Act} (hw : Region.wanted op (yielded ops a.tmps) = true) (x : Operand) (ho : op.op = .binOp .add 3 (.const (.int .i64 1)) x 3) (p : Int) (hx : a.eval x = .int .i64 p) (h0 : 0 ≤ p) (h1 : p ≤ 1000) :
    YieldsIf Tryd.prog ops S op (.int .i64 (1 + p)) a :=
  .inl ⟨hw, fun w _ => by
    have hc : a.eval (.const (.int .i64 1)) = .int .i64 1 := rfl
    unfold execOp
    simp only [ho, hx, hc]
    simp [go_sem]
    rw [IntKind.wrap_i64]
    omega⟩
end Go.Proofs.YtmpefofifbehjabDoor
/-
  Rows of commands and answers, as they grow, and the commands of wishes. No function of the program is named here.
-/
namespace Go.Proofs.YtmpefofifbehjabDoor
open Go.RowKit
set_option linter.unusedVariables false

/-- the command of a wish -/
def wishC (c : Cmd) : Cmd := ⟨wK c.k, pick c.c 4, pick c.s 6, pick c.n 4, wV c.k c.v⟩
def wsh (l : List Cmd) : Nat → Cmd := fun i => wishC (l.getD i ⟨0, 0, 0, 0, 0⟩)
theorem wishC_may (c : Cmd) : (wishC c).e = 0 := by
  have h1 := pick_range c.c 4 (by omega)
  have h2 := pick_range c.s 6 (by omega)
  exact wish_in c.k c.c c.s c.n c.v (pick c.c 4) (pick c.s 6) (by omega) (by omega)
theorem wsh_may (l : List Cmd) (i : Nat) : (wsh l i).e = 0 := wishC_may _
theorem wsh_at {l : List Cmd} {i : Nat} {c : Cmd} (h : l[i]? = some c) : wsh l i = wishC c := by
  unfold wsh
  rw [List.getD_eq_getElem?_getD, h]
  rfl
/-- so many commands, and so many answers, in a row -/
def crL (f : Nat → Cmd) : Nat → List Value
  | 0 => []
  | n + 1 => crL f n ++ pyC (f n)
def arL (f : Nat → Cmd) : Nat → List Value
  | 0 => []
  | n + 1 => arL f n ++ [.int .i64 (cAt f n), .int .i64 (aAt f n)]
theorem crL_length (f : Nat → Cmd) (n : Nat) : (crL f n).length = 5 * n := by
  induction n with
  | zero => rfl
  | succ n ih => rw [crL, List.length_append, ih]; show _ + 5 = _; omega
theorem arL_length (f : Nat → Cmd) (n : Nat) : (arL f n).length = 2 * n := by
  induction n with
  | zero => rfl
  | succ n ih => rw [arL, List.length_append, ih]; show _ + 2 = _; omega
theorem crL_get (f : Nat → Cmd) {n i j : Nat} {u : Value} (hi : i < n) (hj : (pyC (f i))[j]? = some u) : (crL f n)[5 * i + j]? = some u := by
  have hj5 : j < 5 := (List.getElem?_eq_some_iff.1 hj).1
  induction n with
  | zero => omega
  | succ n ih =>
    rw [crL]
    by_cases e : i = n
    · subst e
      rw [List.getElem?_append_right (by rw [crL_length]; omega), crL_length, show 5 * i + j - 5 * i = j by omega]
      exact hj
    · rw [List.getElem?_append_left (by rw [crL_length]; omega)]
      exact ih (by omega)
theorem arL_get (f : Nat → Cmd) {n i : Nat} (hi : i < n) : (arL f n)[2 * i]? = some (.int .i64 (cAt f i)) ∧ (arL f n)[2 * i + 1]? = some (.int .i64 (aAt f i)) := by
  induction n with
  | zero => omega
  | succ n ih =>
    rw [arL]
    by_cases e : i = n
    · subst e
      rw [List.getElem?_append_right (by rw [arL_length]; omega), List.getElem?_append_right (by rw [arL_length]; omega), arL_length, show 2 * i - 2 * i = 0 by omega, show 2 * i + 1 - 2 * i = 1 by omega]
      exact ⟨rfl, rfl⟩
    · rw [List.getElem?_append_left (by rw [arL_length]; omega), List.getElem?_append_left (by rw [arL_length]; omega)]
      exact ih (by omega)
def zCm : Value := .agg #[.int .i64 0, .int .i64 0, .int .i64 0, .int .i64 0, .int .i64 0]
def zAn : Value := .agg #[.int .i64 0, .int .i64 0]
theorem infoCm : (Tryd.prog.info? 40).map (fun i => (i.zero, i.size, i.bytes)) = some (some zCm, 5, 40) := by kernel_rfl
theorem infoAn : (Tryd.prog.info? 28).map (fun i => (i.zero, i.size, i.bytes)) = some (some zAn, 2, 16) := by kernel_rfl
theorem wiSize : (Tryd.prog.info? 24).map (·.size) = some 5 := by kernel_rfl
theorem ownsNil (w : World) (base e k : Nat) : w.ownsRow base e k (.slice none 0 0) 0 [] := ⟨by simp, .inl ⟨rfl, rfl⟩⟩
/-- wishes of a list -/
def PlyI (c : Cmd) : Prop := I64 c.k ∧ I64 c.c ∧ I64 c.s ∧ I64 c.n ∧ I64 c.v
end Go.Proofs.YtmpefofifbehjabDoor
/-
  Stores behind wishes, and what a command makes of them. No program is named here.
-/
namespace Go.Proofs.YtmpefofifbehjabDoor
open Go.RowKit
set_option linter.unusedVariables false

/-- a store that few clients have made: numbers up to five, clients and names below four -/
structure Low (s : Sto) : Prop where
  may : StoB s
  an : AnB s
  last : ∀ i, s.L i ≤ 6
  none : ∀ i, 4 ≤ i → s.L i = 0
  free : ∀ i, 4 ≤ i → s.R i = false
theorem low_wish (l : List Cmd) (n : Nat) : Low (sAt (wsh l) n) := by
  induction n with
  | zero => exact ⟨sto0_may, sto0_an, fun _ => by unfold sAt sto0; simp, fun _ _ => rfl, fun _ _ => rfl⟩
  | succ n ih =>
    obtain ⟨h1, h2⟩ := sAt_may (f := wsh l) (i := n + 1) (fun j _ => wsh_may l j)
    have e : sAt (wsh l) (n + 1) = dnS (sAt (wsh l) n) (wsh l n) := rfl
    have hc := pick_range (l.getD n ⟨0, 0, 0, 0, 0⟩).c 4 (by omega)
    have hq := pick_range (l.getD n ⟨0, 0, 0, 0, 0⟩).s 6 (by omega)
    have hn := pick_range (l.getD n ⟨0, 0, 0, 0, 0⟩).n 4 (by omega)
    have ec : (wsh l n).c = pick (l.getD n ⟨0, 0, 0, 0, 0⟩).c 4 := rfl
    have eq' : (wsh l n).s = pick (l.getD n ⟨0, 0, 0, 0, 0⟩).s 6 := rfl
    have en : (wsh l n).n = pick (l.getD n ⟨0, 0, 0, 0, 0⟩).n 4 := rfl
    rw [← ec] at hc
    rw [← eq'] at hq
    rw [← en] at hn
    refine ⟨h1, h2, ?_, ?_, ?_⟩
    all_goals rw [e]; unfold dnS; split
    · intro i
      simp only [newS]
      by_cases g : i = (wsh l n).c.toNat
      · subst g; rw [putN_at]; omega
      · rw [putN_ne _ _ g]; exact ih.last i
    · exact ih.last
    · intro i hi
      simp only [newS]
      rw [putN_ne _ _ (by omega)]
      exact ih.none i hi
    · exact ih.none
    · intro i hi
      simp only [newS]
      split
      · rw [putN_ne _ _ (by omega)]
        exact ih.free i hi
      · exact ih.free i hi
    · exact ih.free
theorem wish_com (a e c s n : Int) (hc : 0 ≤ c ∧ c ≤ 7) (hs : 0 ≤ s ∧ s ≤ 1048576) (hn : 0 ≤ n ∧ n ≤ 7) : comE (wK a) c s n (wV a e) = 0 := by
  have h1 := wK_range a
  have h3 := wV_range a e
  refine comE_ok h1 (by unfold InC; omega) ?_
  unfold wV
  split
  · exact .inl (by assumption)
  · exact .inr rfl
theorem may_put {c q n v : Int} (h : InC c q n v) : Cmd.e ⟨1, c, q, n, v⟩ = 0 := comE_ok (k := 1) ⟨by decide, by decide⟩ h (.inl rfl)
theorem may_get {c q n : Int} (h : InC c q n 0) : Cmd.e ⟨2, c, q, n, 0⟩ = 0 := comE_ok (k := 2) ⟨by decide, by decide⟩ h (.inr rfl)
theorem may_rev {c q n : Int} (h : InC c q n 0) : Cmd.e ⟨3, c, q, n, 0⟩ = 0 := comE_ok (k := 3) ⟨by decide, by decide⟩ h (.inr rfl)
/-- what Do answers, as one thing -/
structure DoIs (s : Sto) (m : Cmd) (s' : Sto) (c a : Int) : Prop where
  he : doE s m = 0
  hs : doS s m = s'
  hc : doC s m = c
  ha : doA s m = a
theorem doIs {s : Sto} {m : Cmd} (hs : StoB s) (hm : m.e = 0) : DoIs s m (dnS s m) (dnC s m) (dnA s m) := by
  have h : doE s m = 0 := (doE_may hs).trans hm
  exact ⟨h, doS_ok h, doC_ok h, doA_ok h⟩
theorem do_new {s : Sto} {m : Cmd} (hs : StoB s) (hm : m.e = 0) (hk : m.k ≠ 0) (hl : s.L m.c.toNat ≤ m.s) (hr : s.R m.c.toNat = false) : DoIs s m (newS s m) 0 (newA s m) := by
  have h := doIs hs hm
  have e1 : dnS s m = newS s m := if_pos ⟨hk, by omega, hr⟩
  have e2 : dnC s m = 0 := by unfold dnC; rw [if_neg hk, if_neg (by omega), if_neg (by omega), if_neg (by rw [hr]; decide)]
  have e3 : dnA s m = newA s m := by unfold dnA; rw [if_neg hk, if_neg (by omega), if_neg (by omega), if_neg (by rw [hr]; decide)]
  rw [e1, e2, e3] at h
  exact h
theorem do_rev {s : Sto} {m : Cmd} (hs : StoB s) (hm : m.e = 0) (hk : m.k ≠ 0) (hl : s.L m.c.toNat ≤ m.s) (hr : s.R m.c.toNat = true) : DoIs s m s 11 0 := by
  have h := doIs hs hm
  have e1 : dnS s m = s := if_neg (fun g => by rw [hr] at g; cases g.2.2)
  have e2 : dnC s m = 11 := by unfold dnC; rw [if_neg hk, if_neg (by omega), if_neg (by omega), if_pos hr]
  have e3 : dnA s m = 0 := by unfold dnA; rw [if_neg hk, if_neg (by omega), if_neg (by omega), if_pos hr]
  rw [e1, e2, e3] at h
  exact h
theorem do_again {s : Sto} {m : Cmd} (hs : StoB s) (hm : m.e = 0) (hk : m.k ≠ 0) (hl : s.L m.c.toNat = m.s + 1) : DoIs s m s (s.C m.c.toNat) (s.A m.c.toNat) := by
  have h := doIs hs hm
  have e1 : dnS s m = s := if_neg (fun g => g.2.1 (by omega))
  have e2 : dnC s m = s.C m.c.toNat := by unfold dnC; rw [if_neg hk, if_pos hl]
  have e3 : dnA s m = s.A m.c.toNat := by unfold dnA; rw [if_neg hk, if_pos hl]
  rw [e1, e2, e3] at h
  exact h
theorem do_old {s : Sto} {m : Cmd} (hs : StoB s) (hm : m.e = 0) (hk : m.k ≠ 0) (hl : m.s + 1 < s.L m.c.toNat) : DoIs s m s 7 0 := by
  have h := doIs hs hm
  have e1 : dnS s m = s := if_neg (fun g => g.2.1 (by omega))
  have e2 : dnC s m = 7 := by unfold dnC; rw [if_neg hk, if_neg (by omega), if_pos (by omega)]
  have e3 : dnA s m = 0 := by unfold dnA; rw [if_neg hk, if_neg (by omega), if_pos (by omega)]
  rw [e1, e2, e3] at h
  exact h
theorem do_noop {s : Sto} (hs : StoB s) : DoIs s ⟨0, 0, 0, 0, 0⟩ s 0 0 := by
  have h := doIs (m := ⟨0, 0, 0, 0, 0⟩) hs (comE_noop ⟨rfl, rfl, rfl, rfl⟩)
  exact h
/-- a store that is made anew may be, too -/
theorem newS_may {s : Sto} {m : Cmd} (hs : StoB s) (hm : m.e = 0) (hk : m.k ≠ 0) (hl : s.L m.c.toNat ≤ m.s) (hr : s.R m.c.toNat = false) : StoB (newS s m) := by
  have h := dnS_may hs hm
  rwa [show dnS s m = newS s m from if_pos ⟨hk, by omega, hr⟩] at h
theorem again_is {z : Sto} {k q n v c a : Int} {ci : Nat} (hz : StoB z) (hm : Cmd.e ⟨k, (ci : Int), q, n, v⟩ = 0) (hk : k ≠ 0) (hl : z.L ci = q + 1) (hc : z.C ci = c) (ha : z.A ci = a) : DoIs z ⟨k, (ci : Int), q, n, v⟩ z c a := by
  have h := do_again (m := ⟨k, (ci : Int), q, n, v⟩) hz hm hk (by simp only; rw [Int.toNat_natCast]; exact hl)
  simp only [Int.toNat_natCast] at h
  rwa [hc, ha] at h
theorem old_is {z : Sto} {k q n v : Int} {ci : Nat} (hz : StoB z) (hm : Cmd.e ⟨k, (ci : Int), q, n, v⟩ = 0) (hk : k ≠ 0) (hl : q + 1 < z.L ci) : DoIs z ⟨k, (ci : Int), q, n, v⟩ z 7 0 :=
  do_old (m := ⟨k, (ci : Int), q, n, v⟩) hz hm hk (by simp only; rw [Int.toNat_natCast]; exact hl)
theorem new_is {s : Sto} {k q n v : Int} {ci : Nat} (hs : StoB s) (hm : Cmd.e ⟨k, (ci : Int), q, n, v⟩ = 0) (hk : k ≠ 0) (hl : s.L ci ≤ q) (hr : s.R ci = false) :
    ∃ s1 a1, DoIs s ⟨k, (ci : Int), q, n, v⟩ s1 0 a1 ∧ StoB s1 ∧ s1.L ci = q + 1 ∧ s1.C ci = 0 ∧ s1.A ci = a1 := by
  have hl' : s.L (Cmd.c ⟨k, (ci : Int), q, n, v⟩).toNat ≤ Cmd.s ⟨k, (ci : Int), q, n, v⟩ := by simp only; rw [Int.toNat_natCast]; exact hl
  have hr' : s.R (Cmd.c ⟨k, (ci : Int), q, n, v⟩).toNat = false := by simp only; rw [Int.toNat_natCast]; exact hr
  refine ⟨newS s ⟨k, (ci : Int), q, n, v⟩, newA s ⟨k, (ci : Int), q, n, v⟩, do_new hs hm hk hl' hr', newS_may hs hm hk hl' hr', ?_, ?_, ?_⟩
  all_goals simp only [newS]; rw [Int.toNat_natCast, putN_at]
theorem rev_is {s : Sto} {k q n v : Int} {ci : Nat} (hs : StoB s) (hm : Cmd.e ⟨k, (ci : Int), q, n, v⟩ = 0) (hk : k ≠ 0) (hl : s.L ci ≤ q) (hr : s.R ci = true) : DoIs s ⟨k, (ci : Int), q, n, v⟩ s 11 0 :=
  do_rev (m := ⟨k, (ci : Int), q, n, v⟩) hs hm hk (by simp only; rw [Int.toNat_natCast]; exact hl) (by simp only; rw [Int.toNat_natCast]; exact hr)
/-- two commands of two clients about two names, in either order -/
theorem newA_turn (s : Sto) {k c q n v k' c' q' n' v' : Int} (hn : n.toNat ≠ n'.toNat) : newA (newS s ⟨k, c, q, n, v⟩) ⟨k', c', q', n', v'⟩ = newA s ⟨k', c', q', n', v'⟩ := by
  unfold newA newS
  simp only
  split
  · rfl
  · split
    · split
      · rw [putN_ne _ _ (Ne.symm hn)]
      · rfl
    · rfl
theorem newS_turn (s : Sto) {k c q n v k' c' q' n' v' : Int} (hc : c.toNat ≠ c'.toNat) (hn : n.toNat ≠ n'.toNat) : newS (newS s ⟨k, c, q, n, v⟩) ⟨k', c', q', n', v'⟩ = newS (newS s ⟨k', c', q', n', v'⟩) ⟨k, c, q, n, v⟩ := by
  have e1 := newA_turn s (k := k) (c := c) (q := q) (n := n) (v := v) (k' := k') (c' := c') (q' := q') (n' := n') (v' := v') hn
  have e2 := newA_turn s (k := k') (c := c') (q := q') (n := n') (v := v') (k' := k) (c' := c) (q' := q) (n' := n) (v' := v) (Ne.symm hn)
  have g : ∀ (a b : Sto), a.V = b.V → a.L = b.L → a.C = b.C → a.A = b.A → a.R = b.R → a = b := fun a b h1 h2 h3 h4 h5 => by cases a; cases b; simp_all
  apply g
  · simp only [newS]
    split <;> split <;> first | rfl | exact putN_comm _ _ _ hn
  · simp only [newS]
    exact putN_comm _ _ _ hc
  · simp only [newS]
    exact putN_comm _ _ _ hc
  · show putN (putN s.A c.toNat (newA s ⟨k, c, q, n, v⟩)) c'.toNat (newA (newS s ⟨k, c, q, n, v⟩) ⟨k', c', q', n', v'⟩) = putN (putN s.A c'.toNat (newA s ⟨k', c', q', n', v'⟩)) c.toNat (newA (newS s ⟨k', c', q', n', v'⟩) ⟨k, c, q, n, v⟩)
    rw [e1, e2]
    exact putN_comm _ _ _ hc
  · simp only [newS]
    split <;> split <;> first | rfl | exact putN_comm _ _ _ hn
/-- what was done stays done -/
theorem dnS_last {s : Sto} {m : Cmd} (i : Nat) : s.L i ≤ (dnS s m).L i := by
  unfold dnS
  split
  · rename_i h
    simp only [newS]
    by_cases e : i = m.c.toNat
    · subst e; rw [putN_at]; omega
    · rw [putN_ne _ _ e]; omega
  · omega
theorem dnS_rev {s : Sto} {m : Cmd} (i : Nat) (h : s.R i = true) : (dnS s m).R i = true := by
  unfold dnS
  split
  · simp only [newS]
    split
    · unfold putN; split <;> simp_all
    · exact h
  · exact h
theorem dnS_other {s : Sto} {m : Cmd} {i : Nat} (h : i ≠ m.c.toNat) : (dnS s m).L i = s.L i ∧ (dnS s m).C i = s.C i ∧ (dnS s m).A i = s.A i := by
  unfold dnS
  split
  · simp only [newS]
    rw [putN_ne _ _ h, putN_ne _ _ h, putN_ne _ _ h]
    exact ⟨rfl, rfl, rfl⟩
  · exact ⟨rfl, rfl, rfl⟩
theorem dnS_after {s : Sto} {m : Cmd} (hk : m.k ≠ 0) (h : dnC s m = 0) : m.s < (dnS s m).L m.c.toNat := by
  unfold dnC at h
  rw [if_neg hk] at h
  by_cases e : m.s < s.L m.c.toNat
  · unfold dnS
    rw [if_neg (fun g => g.2.1 e)]
    exact e
  · rw [if_neg (by omega), if_neg e] at h
    split at h
    · omega
    · rename_i hr
      unfold dnS
      rw [if_pos ⟨hk, e, by simpa using hr⟩]
      simp only [newS]
      rw [putN_at]
      omega
end Go.Proofs.YtmpefofifbehjabDoor
/-
  Do, where what it makes is known.
-/
namespace Go.Proofs.YtmpefofifbehjabDoor
open Go.RowKit
set_option linter.unusedVariables false

theorem vdo_is {s s' : Sto} {k c q n v C A : Int} (h : DoIs s ⟨k, c, q, n, v⟩ s' C A) (w : World) (hN : NTab w) :
    Calls Tryd.prog 11 #[.agg (stA s), .agg #[.int .i64 k, .int .i64 c, .int .i64 q, .int .i64 n, .int .i64 v]] w fun e w' => e = .returned (.tuple #[.agg (stA s'), .agg #[.int .i64 C, .int .i64 A], .int .i64 0]) ∧ Below w.heap.size w w' := by
  have key := vdo_any s k c q n v w hN
  rw [h.he, h.hs, h.hc, h.ha] at key
  exact key
end Go.Proofs.YtmpefofifbehjabDoor
/-
  Bytes that are built. No program is named here.
-/
namespace Go.Proofs.YtmpefofifbehjabDoor
open Go.RowKit
set_option linter.unusedVariables false

theorem Sl.builtO (w : World) (l : List Int) (e : TypeId) {g : Nat} (hg : g = w.heap.size) {n : Nat} (hn : n = l.length) (hl : l.length ≤ 140737488351232) (hb : ∀ x ∈ l, 0 ≤ x ∧ x < 256) :
    Sl (w.alloc (.cells (l.map (Value.int .u8)).toArray e)) (.slice (some ⟨g, 0, none⟩) n n) l := by
  subst hg hn
  refine ⟨⟨_, _, rfl, Nat.le_refl _, by simp, ?_⟩, hl, hb⟩
  refine .inr ⟨w.heap.size, 0, rfl, by simp, fun i hi => ?_⟩
  rw [cell_of_row _ _ (0 + i) _ _ _ (heap_alloc_new w (.cells (l.map (Value.int .u8)).toArray e))]
  simp [List.getElem?_eq_getElem hi, List.getD]

end Go.Proofs.YtmpefofifbehjabDoor
/-
  Entries in memory. No function of the program is named here.
-/
namespace Go.Proofs.YtmpefofifbehjabDoor
open Go.RowKit
set_option linter.unusedVariables false

theorem enSz8 : (Tryd.prog.info? 49).map (·.size) = some 8 := by kernel_rfl
def zEn : Value := .agg #[.int .i64 0, .int .i64 0, .int .i64 0, .int .i64 0, .int .i64 0, .int .i64 0, .int .i64 0, .slice none 0 0]
theorem infoEn : (Tryd.prog.info? 49).map (fun i => (i.zero, i.size, i.bytes)) = some (some zEn, 8, 80) := by kernel_rfl
end Go.Proofs.YtmpefofifbehjabDoor
/-
  Tails of chains, and entries, in memory. No function of the program is named here.
-/
namespace Go.Proofs.YtmpefofifbehjabDoor
open Go.RowKit
set_option linter.unusedVariables false

/-- the cells of a tail: a store, and the last sum -/
def tlA (s : Sto) (a : Option Addr) (n c : Nat) : Array Value := (stA s).push (.slice a n c)
theorem tlSize (s : Sto) (a : Option Addr) (n c : Nat) : (Tryd.prog.info? 61).map (·.size) = some (tlA s a n c).size := by show _ = some 41; kernel_rfl
theorem tlA_one (s : Sto) (a : Option Addr) (n c : Nat) : (tlA s a n c).all (·.oneCell') = true := by
  unfold tlA
  rw [Array.all_push, stA_one]
  rfl
theorem tlA_st (s : Sto) (a : Option Addr) (n c : Nat) {j : Nat} {u : Value} (h : (stA s).toList[j]? = some u) : (tlA s a n c)[j]? = some u := by
  have hj : j < 40 := by
    have := (List.getElem?_eq_some_iff.1 h).1
    rwa [Array.length_toList, stA_size] at this
  unfold tlA
  rw [Array.getElem?_push, if_neg (by rw [stA_size]; omega)]
  simpa using h
theorem tl_range {w : World} {g : Nat} {s : Sto} {a : Option Addr} {n c : Nat} (h : w.heap[g]? = some (.cells (tlA s a n c) 61)) : w.rangeAt g 0 (stA s).toList := by
  intro j u hj
  rw [Nat.zero_add, cell_of_row _ _ j _ _ _ h]
  exact tlA_st s a n c hj
theorem tl_sum {w : World} {g : Nat} {s : Sto} {a : Option Addr} {n c : Nat} (h : w.heap[g]? = some (.cells (tlA s a n c) 61)) : w.cell? ⟨g, 40, none⟩ = some (.slice a n c) :=
  (cell_of_row _ _ 40 _ _ _ h).trans rfl
theorem wpList_load_tl {ops : Array Oper} {rest : List Oper} {op : Oper} {a : Act} {w : World} {Q : Exit → Act → World → Prop} (hgd : op.guard = none) (x : Operand) (ho : op.op = .load 32 x)
    (b : Nat) (hx : a.eval x = .pointer (some ⟨b, 0, none⟩)) (s : Sto) (hc : w.rangeAt b 0 (stA s).toList)
    (h : wpList Tryd.prog ops Q rest (a.put op.dst (.agg (stA s))) w) : wpList Tryd.prog ops Q (op :: rest) a w :=
  wpList_load_mid hgd 32 x ho b 0 hx (stA s).toList _ hc Tryd.underlying32 rfl (stSize s) h
end Go.Proofs.YtmpefofifbehjabDoor
