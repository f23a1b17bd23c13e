/-
  Rows of commands and answers, as they grow, and the commands of wishes. No function of the program is named here.
-/
import Derived.Test.YtmpefofifbehjaaDoorVaSpec
import Derived.Test.YtmpefofifbehjaaDoorStoRow
import Derived.Test.YtmpefofifbehjaaDoorOneCell
import Derived.Test.YtmpefofifbehjaaDoorWiRow
import Derived.Test.YtmpefofifbehjaaDoorKOrdSpec
import Derived.Test.YtmpefofifbehjaaDoorStabCm
namespace Go.Proofs.YtmpefofifbehjaaDoor
open Go.RowKit
set_option linter.unusedVariables false

/-- the command of a wish -/
def wishC (c : Cmd) : Cmd := ⟨wK c.k, pick c.c 4, pick c.s 6, pick c.n 4, wV c.k c.v⟩
def wsh (l : List Cmd) : Nat → Cmd := fun i => wishC (l.getD i ⟨0, 0, 0, 0, 0⟩)
theorem wishC_may (c : Cmd) : (wishC c).e = 0 := by
  have h1 := pick_range c.c 4 (by omega)
  have h2 := pick_range c.s 6 (by omega)
  exact wish_in c.k c.c c.s c.n c.v (pick c.c 4) (pick c.s 6) (by omega) (by omega)
theorem wsh_may (l : List Cmd) (i : Nat) : (wsh l i).e = 0 := wishC_may _
theorem wsh_at {l : List Cmd} {i : Nat} {c : Cmd} (h : l[i]? = some c) : wsh l i = wishC c := by
  unfold wsh
  rw [List.getD_eq_getElem?_getD, h]
  rfl
/-- so many commands, and so many answers, in a row -/
def crL (f : Nat → Cmd) : Nat → List Value
  | 0 => []
  | n + 1 => crL f n ++ pyC (f n)
def arL (f : Nat → Cmd) : Nat → List Value
  | 0 => []
  | n + 1 => arL f n ++ [.int .i64 (cAt f n), .int .i64 (aAt f n)]
theorem crL_length (f : Nat → Cmd) (n : Nat) : (crL f n).length = 5 * n := by
  induction n with
  | zero => rfl
  | succ n ih => rw [crL, List.length_append, ih]; show _ + 5 = _; omega
theorem arL_length (f : Nat → Cmd) (n : Nat) : (arL f n).length = 2 * n := by
  induction n with
  | zero => rfl
  | succ n ih => rw [arL, List.length_append, ih]; show _ + 2 = _; omega
theorem crL_get (f : Nat → Cmd) {n i j : Nat} {u : Value} (hi : i < n) (hj : (pyC (f i))[j]? = some u) : (crL f n)[5 * i + j]? = some u := by
  have hj5 : j < 5 := (List.getElem?_eq_some_iff.1 hj).1
  induction n with
  | zero => omega
  | succ n ih =>
    rw [crL]
    by_cases e : i = n
    · subst e
      rw [List.getElem?_append_right (by rw [crL_length]; omega), crL_length, show 5 * i + j - 5 * i = j by omega]
      exact hj
    · rw [List.getElem?_append_left (by rw [crL_length]; omega)]
      exact ih (by omega)
theorem arL_get (f : Nat → Cmd) {n i : Nat} (hi : i < n) : (arL f n)[2 * i]? = some (.int .i64 (cAt f i)) ∧ (arL f n)[2 * i + 1]? = some (.int .i64 (aAt f i)) := by
  induction n with
  | zero => omega
  | succ n ih =>
    rw [arL]
    by_cases e : i = n
    · subst e
      rw [List.getElem?_append_right (by rw [arL_length]; omega), List.getElem?_append_right (by rw [arL_length]; omega), arL_length, show 2 * i - 2 * i = 0 by omega, show 2 * i + 1 - 2 * i = 1 by omega]
      exact ⟨rfl, rfl⟩
    · rw [List.getElem?_append_left (by rw [arL_length]; omega), List.getElem?_append_left (by rw [arL_length]; omega)]
      exact ih (by omega)
def zCm : Value := .agg #[.int .i64 0, .int .i64 0, .int .i64 0, .int .i64 0, .int .i64 0]
def zAn : Value := .agg #[.int .i64 0, .int .i64 0]
theorem infoCm : (Tryd.prog.info? 31).map (fun i => (i.zero, i.size, i.bytes)) = some (some zCm, 5, 40) := by kernel_rfl
theorem infoAn : (Tryd.prog.info? 25).map (fun i => (i.zero, i.size, i.bytes)) = some (some zAn, 2, 16) := by kernel_rfl
theorem wiSize : (Tryd.prog.info? 47).map (·.size) = some 5 := by kernel_rfl
theorem ownsNil (w : World) (base e k : Nat) : w.ownsRow base e k (.slice none 0 0) 0 [] := ⟨by simp, .inl ⟨rfl, rfl⟩⟩
/-- wishes of a list -/
def PlyI (c : Cmd) : Prop := I64 c.k ∧ I64 c.c ∧ I64 c.s ∧ I64 c.n ∧ I64 c.v
end Go.Proofs.YtmpefofifbehjaaDoor
