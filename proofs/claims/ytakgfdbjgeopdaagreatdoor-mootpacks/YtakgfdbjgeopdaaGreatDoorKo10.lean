/-
  Commands and tokens, in plain numbers: their cells, what may be, their bytes, and what a token allows. No program is named here.
-/
import Derived.BigQuiet
import Derived.Test.YtakgfdbjgeopdaaGreatDoorKo9
import Derived.Test.YtakgfdbjgeopdaaGreatDoorKo2
import Derived.Test.YtakgfdbjgeopdaaGreatDoorProg
import Derived.Test.YtakgfdbjgeopdaaGreatDoorKo1
namespace Go.Proofs.YtakgfdbjgeopdaaGreatDoor
open Go.RowKit
set_option linter.unusedVariables false

/-- the cells of a command: kind, client, number, name, value -/
def cmA (k c s n v : Int) : Array Value := #[.int .i64 k, .int .i64 c, .int .i64 s, .int .i64 n, .int .i64 v]
/-- the cells of a token: client, rights, until -/
def tkA (c r u : Int) : Array Value := #[.int .i64 c, .int .i64 r, .int .i64 u]

/-- the numbers of a command that is no noop, within their bounds -/
def InC (c s n v : Int) : Prop := 0 ≤ c ∧ c ≤ 7 ∧ 0 ≤ s ∧ s ≤ 1048576 ∧ 0 ≤ n ∧ n ≤ 7 ∧ 0 ≤ v ∧ v ≤ 1073741824
instance (c s n v : Int) : Decidable (InC c s n v) := by unfold InC; exact inferInstance
/-- what is wrong with a command -/
def comE (k c s n v : Int) : Int :=
  if ¬ (0 ≤ k ∧ k ≤ 3) then 4
  else if k = 0 then (if c = 0 ∧ s = 0 ∧ n = 0 ∧ v = 0 then 0 else 3)
  else if ¬ InC c s n v then 2
  else if 1 < k ∧ v ≠ 0 then 3
  else 0
theorem comE_kind {k c s n v : Int} (h : ¬ (0 ≤ k ∧ k ≤ 3)) : comE k c s n v = 4 := if_pos h
theorem comE_noop {c s n v : Int} (h : c = 0 ∧ s = 0 ∧ n = 0 ∧ v = 0) : comE 0 c s n v = 0 := by
  unfold comE; rw [if_neg (by omega), if_pos rfl, if_pos h]
theorem comE_noopF {c s n v : Int} (h : ¬ (c = 0 ∧ s = 0 ∧ n = 0 ∧ v = 0)) : comE 0 c s n v = 3 := by
  unfold comE; rw [if_neg (by omega), if_pos rfl, if_neg h]
theorem comE_range {k c s n v : Int} (h : 1 ≤ k ∧ k ≤ 3) (hi : ¬ InC c s n v) : comE k c s n v = 2 := by
  unfold comE; rw [if_neg (by omega), if_neg (by omega), if_pos hi]
theorem comE_form {k c s n v : Int} (h : 2 ≤ k ∧ k ≤ 3) (hi : InC c s n v) (hv : v ≠ 0) : comE k c s n v = 3 := by
  unfold comE; rw [if_neg (by omega), if_neg (by omega), if_neg (fun g => g hi), if_pos ⟨by omega, hv⟩]
theorem comE_ok {k c s n v : Int} (h : 1 ≤ k ∧ k ≤ 3) (hi : InC c s n v) (hv : k = 1 ∨ v = 0) : comE k c s n v = 0 := by
  unfold comE; rw [if_neg (by omega), if_neg (by omega), if_neg (fun g => g hi), if_neg (by omega)]
/-- of a command that may be, all numbers are small -/
theorem comE_zero {k c s n v : Int} (h : comE k c s n v = 0) : (0 ≤ k ∧ k ≤ 3) ∧ InC c s n v := by
  unfold comE at h
  split at h
  · omega
  · rename_i h1
    split at h
    · split at h
      · rename_i h3
        exact ⟨by omega, by unfold InC; omega⟩
      · omega
    · split at h
      · omega
      · rename_i h3
        exact ⟨by omega, Classical.not_not.1 h3⟩
theorem comE_range4 (k c s n v : Int) : 0 ≤ comE k c s n v ∧ comE k c s n v ≤ 4 := by
  unfold comE
  repeat' split
  all_goals omega

/-- a command's bytes -/
def comL (k c s n v : Int) : List Int := headL k ++ headL c ++ headL s ++ headL n ++ headL v
theorem comL_length (k c s n v : Int) : (comL k c s n v).length = 20 := rfl
theorem comL_byte (k c s n v : Int) : ∀ x ∈ comL k c s n v, 0 ≤ x ∧ x < 256 := by
  intro x hx
  rcases List.mem_append.1 hx with hx | hx
  · rcases List.mem_append.1 hx with hx | hx
    · rcases List.mem_append.1 hx with hx | hx
      · rcases List.mem_append.1 hx with hx | hx
        · exact headL_byte _ x hx
        · exact headL_byte _ x hx
      · exact headL_byte _ x hx
    · exact headL_byte _ x hx
  · exact headL_byte _ x hx
/-- the number at a place of bytes -/
def numA (l : List Int) (i : Nat) : Int := 16777216 * l.getD i 0 + 65536 * l.getD (i + 1) 0 + 256 * l.getD (i + 2) 0 + l.getD (i + 3) 0
theorem numA_range {l : List Int} (hb : ∀ x ∈ l, 0 ≤ x ∧ x < 256) (i : Nat) : 0 ≤ numA l i ∧ numA l i < 4294967296 := by
  have h0 := getD_byte hb i
  have h1 := getD_byte hb (i + 1)
  have h2 := getD_byte hb (i + 2)
  have h3 := getD_byte hb (i + 3)
  unfold numA
  omega
/-- the bytes of a number that is read -/
theorem headL_numA {l : List Int} (hb : ∀ x ∈ l, 0 ≤ x ∧ x < 256) (i : Nat) : headL (numA l i) = [l.getD i 0, l.getD (i + 1) 0, l.getD (i + 2) 0, l.getD (i + 3) 0] := by
  have h0 := getD_byte hb i
  have h1 := getD_byte hb (i + 1)
  have h2 := getD_byte hb (i + 2)
  have h3 := getD_byte hb (i + 3)
  unfold headL numA
  congr 1
  · omega
  congr 1
  · omega
  congr 1
  · omega
  congr 1
  omega
theorem numA_headL (n : Int) (h0 : 0 ≤ n) (h1 : n < 4294967296) (l m : List Int) : numA (l ++ (headL n ++ m)) l.length = n := by
  have e : ∀ j, (l ++ (headL n ++ m)).getD (l.length + j) 0 = (headL n ++ m).getD j 0 := by
    intro j
    simp [List.getD, List.getElem?_append_right]
  unfold numA
  rw [show l.length = l.length + 0 from rfl, Nat.add_assoc, Nat.add_assoc, Nat.add_assoc, e, e, e, e]
  show 16777216 * (n / 16777216 % 256) + 65536 * (n / 65536 % 256) + 256 * (n / 256 % 256) + n % 256 = n
  omega
theorem numA_com0 (k c s n v : Int) (h0 : 0 ≤ k) (h1 : k < 4294967296) : numA (comL k c s n v) 0 = k := by
  have h := numA_headL k h0 h1 [] (headL c ++ headL s ++ headL n ++ headL v)
  exact h
theorem numA_com4 (k c s n v : Int) (h0 : 0 ≤ c) (h1 : c < 4294967296) : numA (comL k c s n v) 4 = c := by
  have h := numA_headL c h0 h1 (headL k) (headL s ++ headL n ++ headL v)
  exact h
theorem numA_com8 (k c s n v : Int) (h0 : 0 ≤ s) (h1 : s < 4294967296) : numA (comL k c s n v) 8 = s := by
  have h := numA_headL s h0 h1 (headL k ++ headL c) (headL n ++ headL v)
  exact h
theorem numA_com12 (k c s n v : Int) (h0 : 0 ≤ n) (h1 : n < 4294967296) : numA (comL k c s n v) 12 = n := by
  have h := numA_headL n h0 h1 (headL k ++ headL c ++ headL s) (headL v)
  exact h
theorem numA_com16 (k c s n v : Int) (h0 : 0 ≤ v) (h1 : v < 4294967296) : numA (comL k c s n v) 16 = v := by
  have h := numA_headL v h0 h1 (headL k ++ headL c ++ headL s ++ headL n) []
  exact h
/-- what twenty bytes tell is what they are -/
theorem comL_num {l : List Int} (hl : l.length = 20) (hb : ∀ x ∈ l, 0 ≤ x ∧ x < 256) : comL (numA l 0) (numA l 4) (numA l 8) (numA l 12) (numA l 16) = l := by
  unfold comL
  rw [headL_numA hb, headL_numA hb, headL_numA hb, headL_numA hb, headL_numA hb]
  match l, hl with
  | [_, _, _, _, _, _, _, _, _, _, _, _, _, _, _, _, _, _, _, _], _ => rfl
/-- what is wrong with bytes, and the command that they tell -/
def decE (l : List Int) : Int := if l.length ≠ 20 then 1 else comE (numA l 0) (numA l 4) (numA l 8) (numA l 12) (numA l 16)
def decV (l : List Int) : Array Value := if decE l = 0 then cmA (numA l 0) (numA l 4) (numA l 8) (numA l 12) (numA l 16) else cmA 0 0 0 0 0

/-- a token that may be -/
def TokB (c r u : Int) : Prop := (0 ≤ c ∧ c ≤ 7) ∧ (0 ≤ r ∧ r ≤ 7) ∧ 0 ≤ u ∧ u ≤ 1048576
instance (c r u : Int) : Decidable (TokB c r u) := by unfold TokB; exact inferInstance
/-- what is wrong with a token -/
def tokE (c r u : Int) : Int := if TokB c r u then 0 else 2
theorem tokE_ok {c r u : Int} (h : TokB c r u) : tokE c r u = 0 := if_pos h
theorem tokE_no {c r u : Int} (h : ¬ TokB c r u) : tokE c r u = 2 := if_neg h
/-- does a set of rights have what a kind needs? -/
def HasR (k r : Int) : Prop := (k = 1 ∧ r / 2 % 2 = 1) ∨ (k = 2 ∧ r % 2 = 1) ∨ (k = 3 ∧ r / 4 = 1)
instance (k r : Int) : Decidable (HasR k r) := by unfold HasR; exact inferInstance
/-- what a token says of a command at a time -/
def allE (tc tr tu k c s n v now : Int) : Int :=
  if ¬ TokB tc tr tu then 2
  else if comE k c s n v ≠ 0 then comE k c s n v
  else if ¬ (HasR k tr ∧ c = tc) then 11
  else if ¬ (0 ≤ now ∧ now ≤ tu) then 10
  else 0
theorem allE_tok {tc tr tu k c s n v now : Int} (h : ¬ TokB tc tr tu) : allE tc tr tu k c s n v now = 2 := if_pos h
theorem allE_com {tc tr tu k c s n v now : Int} (h : TokB tc tr tu) (h1 : comE k c s n v ≠ 0) : allE tc tr tu k c s n v now = comE k c s n v := by
  unfold allE; rw [if_neg (fun g => g h), if_pos h1]
theorem allE_right {tc tr tu k c s n v now : Int} (h : TokB tc tr tu) (h1 : comE k c s n v = 0) (h2 : ¬ (HasR k tr ∧ c = tc)) : allE tc tr tu k c s n v now = 11 := by
  unfold allE; rw [if_neg (fun g => g h), if_neg (fun g => g h1), if_pos h2]
theorem allE_time {tc tr tu k c s n v now : Int} (h : TokB tc tr tu) (h1 : comE k c s n v = 0) (h2 : HasR k tr ∧ c = tc) (h3 : ¬ (0 ≤ now ∧ now ≤ tu)) : allE tc tr tu k c s n v now = 10 := by
  unfold allE; rw [if_neg (fun g => g h), if_neg (fun g => g h1), if_neg (fun g => g h2), if_pos h3]
theorem allE_ok {tc tr tu k c s n v now : Int} (h : TokB tc tr tu) (h1 : comE k c s n v = 0) (h2 : HasR k tr ∧ c = tc) (h3 : 0 ≤ now ∧ now ≤ tu) : allE tc tr tu k c s n v now = 0 := by
  unfold allE; rw [if_neg (fun g => g h), if_neg (fun g => g h1), if_neg (fun g => g h2), if_neg (fun g => g h3)]

/-- the six bytes of a token that its Mac is made of -/
def tokH (c r u : Int) : List Int := c :: r :: headL u
theorem tokH_length (c r u : Int) : (tokH c r u).length = 6 := rfl
theorem tokH_byte {c r u : Int} (h : TokB c r u) : ∀ x ∈ tokH c r u, 0 ≤ x ∧ x < 256 := by
  obtain ⟨h1, h2, h3⟩ := h
  intro x hx
  rcases List.mem_cons.1 hx with rfl | hx
  · omega
  rcases List.mem_cons.1 hx with rfl | hx
  · omega
  exact headL_byte _ x hx
theorem numA_tokH (c r u : Int) (m : List Int) (h0 : 0 ≤ u) (h1 : u < 4294967296) : numA (tokH c r u ++ m) 2 = u := by
  have h := numA_headL u h0 h1 [c, r] m
  exact h
/-- six bytes are those of what they tell -/
theorem tokH_num {l : List Int} (hl : 6 ≤ l.length) (hb : ∀ x ∈ l, 0 ≤ x ∧ x < 256) : tokH (l.getD 0 0) (l.getD 1 0) (numA l 2) = l.take 6 := by
  unfold tokH
  rw [headL_numA hb]
  match l, hl with
  | _ :: _ :: _ :: _ :: _ :: _ :: _, _ => rfl
end Go.Proofs.YtakgfdbjgeopdaaGreatDoor
/-
  Commands that are compared.
-/
namespace Go.Proofs.YtakgfdbjgeopdaaGreatDoor
open Go.RowKit
set_option linter.unusedVariables false

set_option maxRecDepth 100000 in
theorem eql_com (a b c d e a' b' c' d' e' : Int) : ∀ w, (binOp .eql 25 (.agg #[.int .i64 a, .int .i64 b, .int .i64 c, .int .i64 d, .int .i64 e]) (.agg #[.int .i64 a', .int .i64 b', .int .i64 c', .int .i64 d', .int .i64 e'])).run Tryz.prog w = .ok (.bool (decide (a = a' ∧ b = b' ∧ c = c' ∧ d = d' ∧ e = e'))) w := by
  intro w
  rw [run_eql_struct, run_equalIn_agg w 9999 _ _ _ (by kernel_rfl) (by kernel_rfl)]
  unfold Program.fieldsOf
  rw [Tryz.underlying25]
  have h3 := Tryz.underlying3
  simp [Op.eqFields, go_sem, h3]
  repeat' split
  all_goals simp_all
set_option maxRecDepth 100000 in
theorem neq_com (a b c d e a' b' c' d' e' : Int) : ∀ w, (binOp .neq 25 (.agg #[.int .i64 a, .int .i64 b, .int .i64 c, .int .i64 d, .int .i64 e]) (.agg #[.int .i64 a', .int .i64 b', .int .i64 c', .int .i64 d', .int .i64 e'])).run Tryz.prog w = .ok (.bool (!decide (a = a' ∧ b = b' ∧ c = c' ∧ d = d' ∧ e = e'))) w := by
  intro w
  rw [run_neq_struct, run_equalIn_agg w 9999 _ _ _ (by kernel_rfl) (by kernel_rfl)]
  unfold Program.fieldsOf
  rw [Tryz.underlying25]
  have h3 := Tryz.underlying3
  simp [Op.eqFields, go_sem, h3]
  repeat' split
  all_goals simp_all
end Go.Proofs.YtakgfdbjgeopdaaGreatDoor
/-
  Variables that hold a command.
-/
namespace Go.Proofs.YtakgfdbjgeopdaaGreatDoor
open Go.RowKit
set_option linter.unusedVariables false

theorem cmA_cells {w : World} {g : Nat} {k c s n v : Int} {ty : TypeId} {fr : Nat × Nat} (h : w.heap[g]? = some (.cells (cmA k c s n v) ty fr)) :
    w.cell? ⟨g, 0, none⟩ = some (.int .i64 k) ∧ w.cell? ⟨g, 1, none⟩ = some (.int .i64 c) ∧ w.cell? ⟨g, 2, none⟩ = some (.int .i64 s) ∧ w.cell? ⟨g, 3, none⟩ = some (.int .i64 n) ∧ w.cell? ⟨g, 4, none⟩ = some (.int .i64 v) :=
  ⟨cell_of_row _ _ 0 _ _ _ h, cell_of_row _ _ 1 _ _ _ h, cell_of_row _ _ 2 _ _ _ h, cell_of_row _ _ 3 _ _ _ h, cell_of_row _ _ 4 _ _ _ h⟩
theorem inC_iff (c s n v : Int) : InC c s n v ↔ (((0 ≤ c ∧ c ≤ 7) ∧ (0 ≤ s ∧ s ≤ 1048576)) ∧ (0 ≤ n ∧ n ≤ 7)) ∧ (0 ≤ v ∧ v ≤ 1073741824) := by unfold InC; omega
/-- a variable that holds a command -/
structure Bc (w : World) (g : Nat) (k c s n v : Int) : Prop where
  lt : g < w.heap.size
  row : w.heap[g]? = some (.cells (cmA k c s n v) 25)
theorem Bc.made (w : World) (k c s n v : Int) : Bc (w.alloc (.cells (cmA k c s n v) 25)) w.heap.size k c s n v := ⟨by simp, heap_alloc_new _ _⟩
theorem Bc.below {w w' : World} {g : Nat} {k c s n v : Int} (h : Bc w g k c s n v) (hb : Below w.heap.size w w') : Bc w' g k c s n v :=
  ⟨Nat.lt_of_lt_of_le h.lt hb.size, (hb.block g h.lt).trans h.row⟩
theorem comInfo (k c s n v : Int) : (Tryz.prog.info? 25).map (·.size) = some (cmA k c s n v).size := by show _ = some 5; kernel_rfl
end Go.Proofs.YtakgfdbjgeopdaaGreatDoor
/-
  The walks of what commands may be, and of which tokens.
-/
namespace Go.Proofs.YtakgfdbjgeopdaaGreatDoor
open Go.RowKit
set_option linter.unusedVariables false

/-- the table of what each kind needs stands in memory -/
def needL : List Int := [0, 0, 0, 2, 7, 1073741824, 1, 7, 0, 4, 7, 0]
structure NTab (w : World) : Prop where
  lt : 0 < w.heap.size
  cell : ∀ i, i < 12 → w.cell? ⟨0, i, none⟩ = some (.int .i64 (needL.getD i 0))
theorem NTab.below {w w' : World} (h : NTab w) (hb : Below w.heap.size w w') : NTab w' :=
  ⟨Nat.lt_of_lt_of_le h.lt hb.size, fun i hi => (hb.cell (p := ⟨0, i, none⟩) h.lt).trans (h.cell i hi)⟩

theorem upTo_any (n g : Int) (w : World) :
    Calls Tryz.prog 62 #[.int .i64 n, .int .i64 g] w fun e w' => e = .returned (.bool (decide (0 ≤ n ∧ n ≤ g))) ∧ w' = w := by
  by_cases h0 : 0 ≤ n
  · by_cases h1 : n ≤ g
    · rw [decide_eq_true ⟨h0, h1⟩]
      go_enter Tryz.func62, Tryz.ntmps62
      go_wp2
      go_ret
      exact ⟨ret_bool (by simp), rfl⟩
    · rw [decide_eq_false (by omega)]
      go_enter Tryz.func62, Tryz.ntmps62
      go_wp2
      go_ret
      exact ⟨ret_bool (by simp), rfl⟩
  · rw [decide_eq_false (by omega)]
    go_enter Tryz.func62, Tryz.ntmps62
    go_wp2
    go_ret
    exact ⟨ret_bool (by simp), rfl⟩

theorem upTo_if {n g : Int} {b : Bool} (h : Hid (decide (0 ≤ n ∧ n ≤ g) = b)) (w : World) :
    Calls Tryz.prog 62 #[.int .i64 n, .int .i64 g] w fun e w' => e = .returned (.bool b) ∧ w' = w := by
  rw [← h.out]; exact upTo_any n g w

theorem isKind_any (k : Int) (w : World) :
    Calls Tryz.prog 84 #[.int .i64 k] w fun e w' => e = .returned (.bool (decide (0 ≤ k ∧ k ≤ 3))) ∧ w' = w := by
  go_enter Tryz.func84, Tryz.ntmps84
  go_wp2_with fail
  refine (upTo_any k 3 _).mono ?_
  rintro e w1 ⟨rfl, rfl⟩
  go_wp2
  go_ret
  exact ⟨ret_bool (by simp), rfl⟩

theorem noop_any (c s n v : Int) (w : World) :
    Calls Tryz.prog 85 #[.agg (cmA 0 c s n v)] w fun e w' => e = .returned (.int .i64 (comE 0 c s n v)) ∧ Below w.heap.size w w' := by
  have bb : Below w.heap.size w (w.alloc (.cells (cmA 0 c s n v) 25)) := (Below.refl _ _).alloc (Nat.le_refl _) _
  simp only [cmA] at bb ⊢
  have hq := neq_com 0 c s n v 0 0 0 0 0
  by_cases h : c = 0 ∧ s = 0 ∧ n = 0 ∧ v = 0
  · have HE : Hid (0 = comE 0 c s n v) := (comE_noop h).symm
    rw [decide_eq_true ⟨rfl, h⟩] at hq
    clear h
    go_enter Tryz.func85, Tryz.ntmps85
    go_wp2
    go_ret
    exact ⟨ret_num HE.out, bb⟩
  · have HE : Hid (3 = comE 0 c s n v) := (comE_noopF h).symm
    rw [decide_eq_false (fun g => h g.2)] at hq
    clear h
    go_enter Tryz.func85, Tryz.ntmps85
    go_wp2
    go_ret
    exact ⟨ret_num HE.out, bb⟩

theorem NTab.name {w : World} (h : NTab w) (k : Nat) (h0 : 1 ≤ k) (h1 : k ≤ 3) : w.cell? ⟨0, k * 3 + 1, none⟩ = some (.int .i64 7) := by
  rcases (by omega : k = 1 ∨ k = 2 ∨ k = 3) with rfl | rfl | rfl
  · exact h.cell 4 (by omega)
  · exact h.cell 7 (by omega)
  · exact h.cell 10 (by omega)
set_option maxHeartbeats 1000000 in
set_option maxRecDepth 100000 in
theorem inBounds_any (k c s n v : Int) (w : World) (hk : 1 ≤ k ∧ k ≤ 3) (ht : NTab w) :
    Calls Tryz.prog 86 #[.agg (cmA k c s n v)] w fun e w' => e = .returned (.bool (decide (InC c s n v))) ∧ Below w.heap.size w w' := by
  have bb : Below w.heap.size w (w.alloc (.cells (cmA k c s n v) 25)) := (Below.refl _ _).alloc (Nat.le_refl _) _
  have hN := (ht.below bb).name
  have rr := heap_alloc_new w (.cells (cmA k c s n v) 25)
  simp only [cmA] at bb hN rr ⊢
  obtain ⟨m, rfl⟩ := Int.eq_ofNat_of_zero_le (show 0 ≤ k by omega)
  replace hN := hN m (by omega) (by omega)
  have k0 : (0 : Int) ≤ (m : Int) := by omega
  have k1 : (m : Int) < 4 := by omega
  have k2 : m < 4 := by omega
  clear hk ht
  have HI : Hid (InC c s n v ↔ _) := inC_iff c s n v
  generalize hW : w.alloc (.cells #[.int .i64 (m : Int), .int .i64 c, .int .i64 s, .int .i64 n, .int .i64 v] 25) = W at bb hN rr
  go_enter Tryz.func86, Tryz.ntmps86
  go_wp2_with fail
  clear hW
  obtain ⟨c0, c1, c2, c3, c4⟩ := cmA_cells rr
  clear rr
  by_cases h1 : 0 ≤ c ∧ c ≤ 7
  · have U1 : Hid (decide _ = true) := decide_eq_true h1
    by_cases h2 : 0 ≤ s ∧ s ≤ 1048576
    · have U2 : Hid (decide _ = true) := decide_eq_true h2
      by_cases h3 : 0 ≤ n ∧ n ≤ 7
      · have U3 : Hid (decide _ = true) := decide_eq_true h3
        by_cases h4 : 0 ≤ v ∧ v ≤ 1073741824
        · have U4 : Hid (decide _ = true) := decide_eq_true h4
          have HB : Hid (true = decide (InC c s n v)) := (decide_eq_true (HI.out.2 ⟨⟨⟨h1, h2⟩, h3⟩, h4⟩)).symm
          clear h1 h2 h3 h4 HI
          go_quiet ((go_at_call 62; exact Calls.quiet_of_same (upTo_if (by assumption) _)))
          go_wp2
          go_ret
          exact ⟨ret_bool HB.out, below_drewN bb nq⟩
        · have U4 : Hid (decide _ = false) := decide_eq_false h4
          have HB : Hid (false = decide (InC c s n v)) := (decide_eq_false (fun G => h4 ((fun g => g.2) (HI.out.1 G)))).symm
          clear h1 h2 h3 h4 HI
          go_quiet ((go_at_call 62; exact Calls.quiet_of_same (upTo_if (by assumption) _)))
          go_wp2
          go_ret
          exact ⟨ret_bool HB.out, below_drewN bb nq⟩
      · have U3 : Hid (decide _ = false) := decide_eq_false h3
        have HB : Hid (false = decide (InC c s n v)) := (decide_eq_false (fun G => h3 ((fun g => g.1.2) (HI.out.1 G)))).symm
        clear h1 h2 h3 HI
        go_quiet ((go_at_call 62; exact Calls.quiet_of_same (upTo_if (by assumption) _)))
        go_wp2
        go_ret
        exact ⟨ret_bool HB.out, below_drewN bb nq⟩
    · have U2 : Hid (decide _ = false) := decide_eq_false h2
      have HB : Hid (false = decide (InC c s n v)) := (decide_eq_false (fun G => h2 ((fun g => g.1.1.2) (HI.out.1 G)))).symm
      clear h1 h2 HI
      go_quiet ((go_at_call 62; exact Calls.quiet_of_same (upTo_if (by assumption) _)))
      go_wp2
      go_ret
      exact ⟨ret_bool HB.out, below_drewN bb nq⟩
  · have U1 : Hid (decide _ = false) := decide_eq_false h1
    have HB : Hid (false = decide (InC c s n v)) := (decide_eq_false (fun G => h1 ((fun g => g.1.1.1) (HI.out.1 G)))).symm
    clear h1 HI
    go_quiet ((go_at_call 62; exact Calls.quiet_of_same (upTo_if (by assumption) _)))
    go_wp2
    go_ret
    exact ⟨ret_bool HB.out, below_drewN bb nq⟩
end Go.Proofs.YtakgfdbjgeopdaaGreatDoor
/-
  The walk of the turn of a word.
-/
namespace Go.Proofs.YtakgfdbjgeopdaaGreatDoor
open Go.RowKit

theorem ret_u32 {a b : Int} (h : a = b) : Ending.returned (.int .u32 a) = .returned (.int .u32 b) := by rw [h]

theorem and31 (n : Nat) (h0 : 1 ≤ n) (h1 : n ≤ 31) : bits .and .u64 (IntKind.u64.wrap (-(n : Int))) 31 = 32 - (n : Int) := by
  have e : IntKind.u64.wrap (-(n : Int)) = ((18446744073709551616 - n : Nat) : Int) := by rw [IntKind.wrap_u64]; omega
  rw [e, show (31 : Int) = ((31 : Nat) : Int) from rfl, u64_and_nat _ _ (by omega) (by omega), nat_mask5]
  omega

theorem rotl_any (x : BitVec 32) (n : Nat) (w : World) (h0 : 1 ≤ n) (h1 : n ≤ 31) :
    Calls Tryz.prog 242 #[.int .u32 (uw x), .int .i64 (-(n : Int))] w fun e w' => e = .returned (.int .u32 (uw (x.rotateRight n))) ∧ w' = w := by
  have a1 := uw_lo x
  have a2 := uw_hi x
  have a3 := and31 n h0 h1
  go_enter Tryz.func242, Tryz.ntmps242
  go_wp2
  go_ret
  exact ⟨ret_u32 (uw_rot x n h0 h1), rfl⟩

theorem right_any (x : BitVec 32) (n : Nat) (w : World) (h0 : 1 ≤ n) (h1 : n ≤ 31) :
    Calls Tryz.prog 219 #[.int .u32 (uw x), .int .i64 (n : Int)] w fun e w' => e = .returned (.int .u32 (uw (x.rotateRight n))) ∧ w' = w := by
  go_enter Tryz.func219, Tryz.ntmps219
  go_wp2_with fail
  refine (rotl_any x n w h0 h1).mono ?_
  rintro e w1 ⟨rfl, rfl⟩
  go_wp2
  go_ret
  exact ⟨rfl, rfl⟩

theorem right_at (x : BitVec 32) (k : Int) (w : World) (h0 : 1 ≤ k) (h1 : k ≤ 31) :
    Calls Tryz.prog 219 #[.int .u32 (uw x), .int .i64 k] w fun e w' => e = .returned (.int .u32 (uw (x.rotateRight k.toNat))) ∧ w' = w := by
  obtain ⟨n, rfl⟩ : ∃ n : Nat, k = n := ⟨k.toNat, by omega⟩
  exact right_any x n w (by omega) (by omega)
end Go.Proofs.YtakgfdbjgeopdaaGreatDoor
