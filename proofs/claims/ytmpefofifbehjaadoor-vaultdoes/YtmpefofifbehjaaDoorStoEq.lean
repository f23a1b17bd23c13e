/-
  Stores, and their values, that are compared with themselves.
-/
import Derived.Test.YtmpefofifbehjaaDoorStoRow
import Derived.ChangeKeysEq
namespace Go.Proofs.YtmpefofifbehjaaDoor
open Go.RowKit
set_option linter.unusedVariables false

/-- rows of which each item is the same -/
theorem items_self {P : Program} {w : World} {d c : Nat} {e : TypeId} {xs : Array Value} : ∀ l : List Nat, (∀ i ∈ l, ∃ v, (part e xs (i * c)).run P w = .ok v w ∧ (Op.equalIn d e v v).run P w = .ok true w) → (Op.eqItems d e c xs xs l).run P w = .ok true w
  | [], _ => by simp [Op.eqItems]
  | i :: l, h => by
    obtain ⟨v, h1, h2⟩ := h i (List.mem_cons_self ..)
    have ih := items_self l (fun j hj => h j (List.mem_cons_of_mem _ hj))
    simp [Op.eqItems, Sem.run_bind, h1, h2, ih, Result.andThen_ok]
set_option maxRecDepth 100000 in
theorem va_part (f : Nat → Int) (i : Nat) (hi : i < 8) (w : World) : (part 3 (vaA f) (i * 1)).run Tryd.prog w = .ok (.int .i64 (f i)) w := by
  rcases (by omega : i = 0 ∨ i = 1 ∨ i = 2 ∨ i = 3 ∨ i = 4 ∨ i = 5 ∨ i = 6 ∨ i = 7) with rfl | rfl | rfl | rfl | rfl | rfl | rfl | rfl
  all_goals kernel_rfl
set_option maxRecDepth 100000 in
theorem va_self (f : Nat → Int) (d : Nat) (w : World) : (Op.equalIn (d + 2) 22 (.agg (vaA f)) (.agg (vaA f))).run Tryd.prog w = .ok true w := by
  rw [run_equalIn_array (P := Tryd.prog) w (d + 1) (t := 22) (e := 3) (n := 8) (vaA f) (vaA f) Tryd.underlying22 (show Tryd.prog.info? 3 = some _ from rfl)]
  rw [show Tryd.prog.cellsOf 3 = 1 by kernel_rfl]
  refine items_self _ (fun i hi => ⟨.int .i64 (f i), ?_, ?_⟩)
  · exact va_part f i (by simpa using hi) w
  · rw [run_equalIn_int w d 3 .i64 .i64 _ _ Tryd.underlying3]
    simp
/-- who is revoked -/
def boA (f : Nat → Bool) : Array Value := #[.bool (f 0), .bool (f 1), .bool (f 2), .bool (f 3), .bool (f 4), .bool (f 5), .bool (f 6), .bool (f 7)]
set_option maxRecDepth 100000 in
theorem bo_part (f : Nat → Bool) (i : Nat) (hi : i < 8) (w : World) : (part 4 (boA f) (i * 1)).run Tryd.prog w = .ok (.bool (f i)) w := by
  rcases (by omega : i = 0 ∨ i = 1 ∨ i = 2 ∨ i = 3 ∨ i = 4 ∨ i = 5 ∨ i = 6 ∨ i = 7) with rfl | rfl | rfl | rfl | rfl | rfl | rfl | rfl
  all_goals kernel_rfl
set_option maxRecDepth 100000 in
theorem bo_self (f : Nat → Bool) (d : Nat) (w : World) : (Op.equalIn (d + 2) 27 (.agg (boA f)) (.agg (boA f))).run Tryd.prog w = .ok true w := by
  rw [run_equalIn_array (P := Tryd.prog) w (d + 1) (t := 27) (e := 4) (n := 8) (boA f) (boA f) Tryd.underlying27 (show Tryd.prog.info? 4 = some _ from rfl)]
  rw [show Tryd.prog.cellsOf 4 = 1 by kernel_rfl]
  refine items_self _ (fun i hi => ⟨.bool (f i), ?_, ?_⟩)
  · exact bo_part f i (by simpa using hi) w
  · rw [run_equalIn_bool w d 4 _ _ Tryd.underlying4]
    simp
/-- answers, by clients -/
def anA (c a : Nat → Int) : Array Value := #[.int .i64 (c 0), .int .i64 (a 0), .int .i64 (c 1), .int .i64 (a 1), .int .i64 (c 2), .int .i64 (a 2), .int .i64 (c 3), .int .i64 (a 3), .int .i64 (c 4), .int .i64 (a 4), .int .i64 (c 5), .int .i64 (a 5), .int .i64 (c 6), .int .i64 (a 6), .int .i64 (c 7), .int .i64 (a 7)]
set_option maxRecDepth 100000 in
theorem an_one (c a : Int) (d : Nat) (w : World) : (Op.equalIn (d + 2) 25 (.agg #[.int .i64 c, .int .i64 a]) (.agg #[.int .i64 c, .int .i64 a])).run Tryd.prog w = .ok true w := by
  rw [run_equalIn_agg w (d + 1) _ _ _ (by kernel_rfl) (by kernel_rfl)]
  unfold Program.fieldsOf
  rw [Tryd.underlying25]
  have h3 := Tryd.underlying3
  have hE := Tryd.underlying23
  simp [Op.eqFields, go_sem, h3, hE]
set_option maxRecDepth 100000 in
theorem an_part (c a : Nat → Int) (i : Nat) (hi : i < 8) (w : World) : (part 25 (anA c a) (i * 2)).run Tryd.prog w = .ok (.agg #[.int .i64 (c i), .int .i64 (a i)]) w := by
  rcases (by omega : i = 0 ∨ i = 1 ∨ i = 2 ∨ i = 3 ∨ i = 4 ∨ i = 5 ∨ i = 6 ∨ i = 7) with rfl | rfl | rfl | rfl | rfl | rfl | rfl | rfl
  all_goals kernel_rfl
set_option maxRecDepth 100000 in
theorem an_self (c a : Nat → Int) (d : Nat) (w : World) : (Op.equalIn (d + 3) 26 (.agg (anA c a)) (.agg (anA c a))).run Tryd.prog w = .ok true w := by
  rw [run_equalIn_array (P := Tryd.prog) w (d + 2) (t := 26) (e := 25) (n := 8) (anA c a) (anA c a) Tryd.underlying26 (show Tryd.prog.info? 25 = some _ from rfl)]
  rw [show Tryd.prog.cellsOf 25 = 2 by kernel_rfl]
  refine items_self _ (fun i hi => ⟨.agg #[.int .i64 (c i), .int .i64 (a i)], ?_, an_one _ _ _ _⟩)
  exact an_part c a i (by simpa using hi) w
set_option maxRecDepth 100000 in
theorem st_self (s : Sto) (d : Nat) (w : World) : (Op.equalIn (d + 4) 29 (.agg (stA s)) (.agg (stA s))).run Tryd.prog w = .ok true w := by
  rw [run_equalIn_agg w (d + 3) _ _ _ (by kernel_rfl) (by kernel_rfl)]
  unfold Program.fieldsOf
  rw [Tryd.underlying29]
  have p0 : (part 22 (stA s) 0).run Tryd.prog w = .ok (.agg (vaA s.V)) w := by kernel_rfl
  have p1 : (part 22 (stA s) 8).run Tryd.prog w = .ok (.agg (vaA s.L)) w := by kernel_rfl
  have p2 : (part 26 (stA s) 16).run Tryd.prog w = .ok (.agg (anA s.C s.A)) w := by kernel_rfl
  have p3 : (part 27 (stA s) 32).run Tryd.prog w = .ok (.agg (boA s.R)) w := by kernel_rfl
  have e0 := va_self s.V (d + 1) w
  have e1 := va_self s.L (d + 1) w
  have e2 := an_self s.C s.A d w
  have e3 := bo_self s.R (d + 1) w
  simp [Op.eqFields, Sem.run_bind, p0, p1, p2, p3, e0, e1, e2, e3, Result.andThen_ok]
theorem eql_st (s : Sto) : ∀ w, (binOp .eql 29 (.agg (stA s)) (.agg (stA s))).run Tryd.prog w = .ok (.bool true) w := by
  intro w
  rw [run_eql_struct, st_self s 9996 w]
  rfl
theorem neq_st (s : Sto) : ∀ w, (binOp .neq 29 (.agg (stA s)) (.agg (stA s))).run Tryd.prog w = .ok (.bool false) w := by
  intro w
  rw [run_neq_struct, st_self s 9996 w]
  rfl
theorem neq_va (f : Nat → Int) : ∀ w, (binOp .neq 22 (.agg (vaA f)) (.agg (vaA f))).run Tryd.prog w = .ok (.bool false) w := by
  intro w
  rw [run_neq_struct, va_self f 9998 w]
  rfl
end Go.Proofs.YtmpefofifbehjaaDoor
