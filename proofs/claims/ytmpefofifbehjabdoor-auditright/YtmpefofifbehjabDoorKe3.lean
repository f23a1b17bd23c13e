/-
  Commands and tokens, in plain numbers: their cells, what may be, their bytes, and what a token allows. No program is named here.
-/
import Derived.StillTail
import Derived.BigQuiet
import Derived.Test.YtmpefofifbehjabDoorKe2
import Derived.Test.YtmpefofifbehjabDoorProg
import Derived.Test.YtmpefofifbehjabDoorKe1
namespace Go.Proofs.YtmpefofifbehjabDoor
open Go.RowKit
set_option linter.unusedVariables false

/-- the cells of a command: kind, client, number, name, value -/
def cmA (k c s n v : Int) : Array Value := #[.int .i64 k, .int .i64 c, .int .i64 s, .int .i64 n, .int .i64 v]
/-- the cells of a token: client, rights, until -/
def tkA (c r u : Int) : Array Value := #[.int .i64 c, .int .i64 r, .int .i64 u]

/-- the numbers of a command that is no noop, within their bounds -/
def InC (c s n v : Int) : Prop := 0 ≤ c ∧ c ≤ 7 ∧ 0 ≤ s ∧ s ≤ 1048576 ∧ 0 ≤ n ∧ n ≤ 7 ∧ 0 ≤ v ∧ v ≤ 1073741824
instance (c s n v : Int) : Decidable (InC c s n v) := by unfold InC; exact inferInstance
/-- what is wrong with a command -/
def comE (k c s n v : Int) : Int :=
  if ¬ (0 ≤ k ∧ k ≤ 3) then 4
  else if k = 0 then (if c = 0 ∧ s = 0 ∧ n = 0 ∧ v = 0 then 0 else 3)
  else if ¬ InC c s n v then 2
  else if 1 < k ∧ v ≠ 0 then 3
  else 0
theorem comE_kind {k c s n v : Int} (h : ¬ (0 ≤ k ∧ k ≤ 3)) : comE k c s n v = 4 := if_pos h
theorem comE_noop {c s n v : Int} (h : c = 0 ∧ s = 0 ∧ n = 0 ∧ v = 0) : comE 0 c s n v = 0 := by
  unfold comE; rw [if_neg (by omega), if_pos rfl, if_pos h]
theorem comE_noopF {c s n v : Int} (h : ¬ (c = 0 ∧ s = 0 ∧ n = 0 ∧ v = 0)) : comE 0 c s n v = 3 := by
  unfold comE; rw [if_neg (by omega), if_pos rfl, if_neg h]
theorem comE_range {k c s n v : Int} (h : 1 ≤ k ∧ k ≤ 3) (hi : ¬ InC c s n v) : comE k c s n v = 2 := by
  unfold comE; rw [if_neg (by omega), if_neg (by omega), if_pos hi]
theorem comE_form {k c s n v : Int} (h : 2 ≤ k ∧ k ≤ 3) (hi : InC c s n v) (hv : v ≠ 0) : comE k c s n v = 3 := by
  unfold comE; rw [if_neg (by omega), if_neg (by omega), if_neg (fun g => g hi), if_pos ⟨by omega, hv⟩]
theorem comE_ok {k c s n v : Int} (h : 1 ≤ k ∧ k ≤ 3) (hi : InC c s n v) (hv : k = 1 ∨ v = 0) : comE k c s n v = 0 := by
  unfold comE; rw [if_neg (by omega), if_neg (by omega), if_neg (fun g => g hi), if_neg (by omega)]
/-- of a command that may be, all numbers are small -/
theorem comE_zero {k c s n v : Int} (h : comE k c s n v = 0) : (0 ≤ k ∧ k ≤ 3) ∧ InC c s n v := by
  unfold comE at h
  split at h
  · omega
  · rename_i h1
    split at h
    · split at h
      · rename_i h3
        exact ⟨by omega, by unfold InC; omega⟩
      · omega
    · split at h
      · omega
      · rename_i h3
        exact ⟨by omega, Classical.not_not.1 h3⟩
theorem comE_range4 (k c s n v : Int) : 0 ≤ comE k c s n v ∧ comE k c s n v ≤ 4 := by
  unfold comE
  repeat' split
  all_goals omega

/-- a command's bytes -/
def comL (k c s n v : Int) : List Int := headL k ++ headL c ++ headL s ++ headL n ++ headL v
theorem comL_length (k c s n v : Int) : (comL k c s n v).length = 20 := rfl
theorem comL_byte (k c s n v : Int) : ∀ x ∈ comL k c s n v, 0 ≤ x ∧ x < 256 := by
  intro x hx
  rcases List.mem_append.1 hx with hx | hx
  · rcases List.mem_append.1 hx with hx | hx
    · rcases List.mem_append.1 hx with hx | hx
      · rcases List.mem_append.1 hx with hx | hx
        · exact headL_byte _ x hx
        · exact headL_byte _ x hx
      · exact headL_byte _ x hx
    · exact headL_byte _ x hx
  · exact headL_byte _ x hx
/-- the number at a place of bytes -/
def numA (l : List Int) (i : Nat) : Int := 16777216 * l.getD i 0 + 65536 * l.getD (i + 1) 0 + 256 * l.getD (i + 2) 0 + l.getD (i + 3) 0
theorem numA_range {l : List Int} (hb : ∀ x ∈ l, 0 ≤ x ∧ x < 256) (i : Nat) : 0 ≤ numA l i ∧ numA l i < 4294967296 := by
  have h0 := getD_byte hb i
  have h1 := getD_byte hb (i + 1)
  have h2 := getD_byte hb (i + 2)
  have h3 := getD_byte hb (i + 3)
  unfold numA
  omega
/-- the bytes of a number that is read -/
theorem headL_numA {l : List Int} (hb : ∀ x ∈ l, 0 ≤ x ∧ x < 256) (i : Nat) : headL (numA l i) = [l.getD i 0, l.getD (i + 1) 0, l.getD (i + 2) 0, l.getD (i + 3) 0] := by
  have h0 := getD_byte hb i
  have h1 := getD_byte hb (i + 1)
  have h2 := getD_byte hb (i + 2)
  have h3 := getD_byte hb (i + 3)
  unfold headL numA
  congr 1
  · omega
  congr 1
  · omega
  congr 1
  · omega
  congr 1
  omega
theorem numA_headL (n : Int) (h0 : 0 ≤ n) (h1 : n < 4294967296) (l m : List Int) : numA (l ++ (headL n ++ m)) l.length = n := by
  have e : ∀ j, (l ++ (headL n ++ m)).getD (l.length + j) 0 = (headL n ++ m).getD j 0 := by
    intro j
    simp [List.getD, List.getElem?_append_right]
  unfold numA
  rw [show l.length = l.length + 0 from rfl, Nat.add_assoc, Nat.add_assoc, Nat.add_assoc, e, e, e, e]
  show 16777216 * (n / 16777216 % 256) + 65536 * (n / 65536 % 256) + 256 * (n / 256 % 256) + n % 256 = n
  omega
theorem numA_com0 (k c s n v : Int) (h0 : 0 ≤ k) (h1 : k < 4294967296) : numA (comL k c s n v) 0 = k := by
  have h := numA_headL k h0 h1 [] (headL c ++ headL s ++ headL n ++ headL v)
  exact h
theorem numA_com4 (k c s n v : Int) (h0 : 0 ≤ c) (h1 : c < 4294967296) : numA (comL k c s n v) 4 = c := by
  have h := numA_headL c h0 h1 (headL k) (headL s ++ headL n ++ headL v)
  exact h
theorem numA_com8 (k c s n v : Int) (h0 : 0 ≤ s) (h1 : s < 4294967296) : numA (comL k c s n v) 8 = s := by
  have h := numA_headL s h0 h1 (headL k ++ headL c) (headL n ++ headL v)
  exact h
theorem numA_com12 (k c s n v : Int) (h0 : 0 ≤ n) (h1 : n < 4294967296) : numA (comL k c s n v) 12 = n := by
  have h := numA_headL n h0 h1 (headL k ++ headL c ++ headL s) (headL v)
  exact h
theorem numA_com16 (k c s n v : Int) (h0 : 0 ≤ v) (h1 : v < 4294967296) : numA (comL k c s n v) 16 = v := by
  have h := numA_headL v h0 h1 (headL k ++ headL c ++ headL s ++ headL n) []
  exact h
/-- what twenty bytes tell is what they are -/
theorem comL_num {l : List Int} (hl : l.length = 20) (hb : ∀ x ∈ l, 0 ≤ x ∧ x < 256) : comL (numA l 0) (numA l 4) (numA l 8) (numA l 12) (numA l 16) = l := by
  unfold comL
  rw [headL_numA hb, headL_numA hb, headL_numA hb, headL_numA hb, headL_numA hb]
  match l, hl with
  | [_, _, _, _, _, _, _, _, _, _, _, _, _, _, _, _, _, _, _, _], _ => rfl
/-- what is wrong with bytes, and the command that they tell -/
def decE (l : List Int) : Int := if l.length ≠ 20 then 1 else comE (numA l 0) (numA l 4) (numA l 8) (numA l 12) (numA l 16)
def decV (l : List Int) : Array Value := if decE l = 0 then cmA (numA l 0) (numA l 4) (numA l 8) (numA l 12) (numA l 16) else cmA 0 0 0 0 0

/-- a token that may be -/
def TokB (c r u : Int) : Prop := (0 ≤ c ∧ c ≤ 7) ∧ (0 ≤ r ∧ r ≤ 7) ∧ 0 ≤ u ∧ u ≤ 1048576
instance (c r u : Int) : Decidable (TokB c r u) := by unfold TokB; exact inferInstance
/-- what is wrong with a token -/
def tokE (c r u : Int) : Int := if TokB c r u then 0 else 2
theorem tokE_ok {c r u : Int} (h : TokB c r u) : tokE c r u = 0 := if_pos h
theorem tokE_no {c r u : Int} (h : ¬ TokB c r u) : tokE c r u = 2 := if_neg h
/-- does a set of rights have what a kind needs? -/
def HasR (k r : Int) : Prop := (k = 1 ∧ r / 2 % 2 = 1) ∨ (k = 2 ∧ r % 2 = 1) ∨ (k = 3 ∧ r / 4 = 1)
instance (k r : Int) : Decidable (HasR k r) := by unfold HasR; exact inferInstance
/-- what a token says of a command at a time -/
def allE (tc tr tu k c s n v now : Int) : Int :=
  if ¬ TokB tc tr tu then 2
  else if comE k c s n v ≠ 0 then comE k c s n v
  else if ¬ (HasR k tr ∧ c = tc) then 11
  else if ¬ (0 ≤ now ∧ now ≤ tu) then 10
  else 0
theorem allE_tok {tc tr tu k c s n v now : Int} (h : ¬ TokB tc tr tu) : allE tc tr tu k c s n v now = 2 := if_pos h
theorem allE_com {tc tr tu k c s n v now : Int} (h : TokB tc tr tu) (h1 : comE k c s n v ≠ 0) : allE tc tr tu k c s n v now = comE k c s n v := by
  unfold allE; rw [if_neg (fun g => g h), if_pos h1]
theorem allE_right {tc tr tu k c s n v now : Int} (h : TokB tc tr tu) (h1 : comE k c s n v = 0) (h2 : ¬ (HasR k tr ∧ c = tc)) : allE tc tr tu k c s n v now = 11 := by
  unfold allE; rw [if_neg (fun g => g h), if_neg (fun g => g h1), if_pos h2]
theorem allE_time {tc tr tu k c s n v now : Int} (h : TokB tc tr tu) (h1 : comE k c s n v = 0) (h2 : HasR k tr ∧ c = tc) (h3 : ¬ (0 ≤ now ∧ now ≤ tu)) : allE tc tr tu k c s n v now = 10 := by
  unfold allE; rw [if_neg (fun g => g h), if_neg (fun g => g h1), if_neg (fun g => g h2), if_pos h3]
theorem allE_ok {tc tr tu k c s n v now : Int} (h : TokB tc tr tu) (h1 : comE k c s n v = 0) (h2 : HasR k tr ∧ c = tc) (h3 : 0 ≤ now ∧ now ≤ tu) : allE tc tr tu k c s n v now = 0 := by
  unfold allE; rw [if_neg (fun g => g h), if_neg (fun g => g h1), if_neg (fun g => g h2), if_neg (fun g => g h3)]

/-- the six bytes of a token that its Mac is made of -/
def tokH (c r u : Int) : List Int := c :: r :: headL u
theorem tokH_length (c r u : Int) : (tokH c r u).length = 6 := rfl
theorem tokH_byte {c r u : Int} (h : TokB c r u) : ∀ x ∈ tokH c r u, 0 ≤ x ∧ x < 256 := by
  obtain ⟨h1, h2, h3⟩ := h
  intro x hx
  rcases List.mem_cons.1 hx with rfl | hx
  · omega
  rcases List.mem_cons.1 hx with rfl | hx
  · omega
  exact headL_byte _ x hx
theorem numA_tokH (c r u : Int) (m : List Int) (h0 : 0 ≤ u) (h1 : u < 4294967296) : numA (tokH c r u ++ m) 2 = u := by
  have h := numA_headL u h0 h1 [c, r] m
  exact h
/-- six bytes are those of what they tell -/
theorem tokH_num {l : List Int} (hl : 6 ≤ l.length) (hb : ∀ x ∈ l, 0 ≤ x ∧ x < 256) : tokH (l.getD 0 0) (l.getD 1 0) (numA l 2) = l.take 6 := by
  unfold tokH
  rw [headL_numA hb]
  match l, hl with
  | _ :: _ :: _ :: _ :: _ :: _ :: _, _ => rfl
end Go.Proofs.YtmpefofifbehjabDoor
/-
  The row of the table for bytes.
-/
namespace Go.Proofs.YtmpefofifbehjabDoor
theorem info5 : (Tryd.prog.info? 5).map (fun i => (i.zero, i.size, i.bytes)) = some (some (.int .u8 0), 1, 1) := by kernel_rfl
end Go.Proofs.YtmpefofifbehjabDoor
/-
  A region that draws its order, whose operations read but for a tail of one store: one walk, in the order of the text. No program is named here.
-/
namespace Go.Proofs.YtmpefofifbehjabDoor
open Go.RowKit

theorem still_of_quiet {P : Program} {ops : Array Oper} {w : World} {Q : Act → Prop} : ∀ (l : List Oper) (a : Act), wpQuiet P ops (fun w' => w' = w) Q l a → wpStill P ops w Q l a
  | [], _, h => h
  | o :: rest, a, h => by
    unfold wpQuiet at h
    unfold wpStill
    split
    · rename_i hw
      rw [if_pos hw] at h
      obtain ⟨v, h1, h2⟩ := h
      have h3 := h1 w rfl
      unfold Oper.quietAt at h3
      unfold Oper.still
      generalize (execOp a.eval o).run P w = r at h3 ⊢
      cases r with
      | ok n w' =>
        cases n <;> simp only [Oper.quietUpon] at h3 <;> simp only [Oper.stillUpon]
        case value u =>
          obtain ⟨e1, e2⟩ := h3
          rw [e2]
          exact ⟨e1, still_of_quiet rest _ h2⟩
        case skip =>
          obtain ⟨e1, e2⟩ := h3
          rw [← e2]
          exact ⟨e1, still_of_quiet rest _ h2⟩
        case enter f args => exact ⟨h3.1, v, h3.2, still_of_quiet rest _ h2⟩
      | halt x w' => simp only [Oper.quietUpon] at h3
    · rename_i hw
      rw [if_neg hw] at h
      exact still_of_quiet rest _ h

theorem wp_region_quiet_tail {P : Program} {id : Nat} {Q : Exit → Act → World → Prop} {a : Act} {w : World} {l : List Oper} (n : Nat) (hm : P.follows .mixedOrders = true) (hB : Region.lexTailB .any l.toArray n = true)
    (h : wpQuiet P l.toArray (fun w' => w' = w.drew) (fun a' => wpList P l.toArray Q (l.drop n) a' w.drew) (l.take n) a) : (Code.region id l.toArray true).wp P Q a w :=
  wp_region_still_tail n hm hB (still_of_quiet _ _ h)

end Go.Proofs.YtmpefofifbehjabDoor
/-
  Commands that are compared.
-/
namespace Go.Proofs.YtmpefofifbehjabDoor
open Go.RowKit
set_option linter.unusedVariables false

set_option maxRecDepth 100000 in
theorem eql_com (a b c d e a' b' c' d' e' : Int) : ∀ w, (binOp .eql 40 (.agg #[.int .i64 a, .int .i64 b, .int .i64 c, .int .i64 d, .int .i64 e]) (.agg #[.int .i64 a', .int .i64 b', .int .i64 c', .int .i64 d', .int .i64 e'])).run Tryd.prog w = .ok (.bool (decide (a = a' ∧ b = b' ∧ c = c' ∧ d = d' ∧ e = e'))) w := by
  intro w
  rw [run_eql_struct, run_equalIn_agg w 9999 _ _ _ (by kernel_rfl) (by kernel_rfl)]
  unfold Program.fieldsOf
  rw [Tryd.underlying40]
  have h3 := Tryd.underlying3
  simp [Op.eqFields, go_sem, h3]
  repeat' split
  all_goals simp_all
set_option maxRecDepth 100000 in
theorem neq_com (a b c d e a' b' c' d' e' : Int) : ∀ w, (binOp .neq 40 (.agg #[.int .i64 a, .int .i64 b, .int .i64 c, .int .i64 d, .int .i64 e]) (.agg #[.int .i64 a', .int .i64 b', .int .i64 c', .int .i64 d', .int .i64 e'])).run Tryd.prog w = .ok (.bool (!decide (a = a' ∧ b = b' ∧ c = c' ∧ d = d' ∧ e = e'))) w := by
  intro w
  rw [run_neq_struct, run_equalIn_agg w 9999 _ _ _ (by kernel_rfl) (by kernel_rfl)]
  unfold Program.fieldsOf
  rw [Tryd.underlying40]
  have h3 := Tryd.underlying3
  simp [Op.eqFields, go_sem, h3]
  repeat' split
  all_goals simp_all
end Go.Proofs.YtmpefofifbehjabDoor
/-
  Variables that hold a command.
-/
namespace Go.Proofs.YtmpefofifbehjabDoor
open Go.RowKit
set_option linter.unusedVariables false

theorem cmA_cells {w : World} {g : Nat} {k c s n v : Int} {ty : TypeId} {fr : Nat × Nat} (h : w.heap[g]? = some (.cells (cmA k c s n v) ty fr)) :
    w.cell? ⟨g, 0, none⟩ = some (.int .i64 k) ∧ w.cell? ⟨g, 1, none⟩ = some (.int .i64 c) ∧ w.cell? ⟨g, 2, none⟩ = some (.int .i64 s) ∧ w.cell? ⟨g, 3, none⟩ = some (.int .i64 n) ∧ w.cell? ⟨g, 4, none⟩ = some (.int .i64 v) :=
  ⟨cell_of_row _ _ 0 _ _ _ h, cell_of_row _ _ 1 _ _ _ h, cell_of_row _ _ 2 _ _ _ h, cell_of_row _ _ 3 _ _ _ h, cell_of_row _ _ 4 _ _ _ h⟩
theorem inC_iff (c s n v : Int) : InC c s n v ↔ (((0 ≤ c ∧ c ≤ 7) ∧ (0 ≤ s ∧ s ≤ 1048576)) ∧ (0 ≤ n ∧ n ≤ 7)) ∧ (0 ≤ v ∧ v ≤ 1073741824) := by unfold InC; omega
/-- a variable that holds a command -/
structure Bc (w : World) (g : Nat) (k c s n v : Int) : Prop where
  lt : g < w.heap.size
  row : w.heap[g]? = some (.cells (cmA k c s n v) 40)
theorem Bc.made (w : World) (k c s n v : Int) : Bc (w.alloc (.cells (cmA k c s n v) 40)) w.heap.size k c s n v := ⟨by simp, heap_alloc_new _ _⟩
theorem Bc.below {w w' : World} {g : Nat} {k c s n v : Int} (h : Bc w g k c s n v) (hb : Below w.heap.size w w') : Bc w' g k c s n v :=
  ⟨Nat.lt_of_lt_of_le h.lt hb.size, (hb.block g h.lt).trans h.row⟩
theorem comInfo (k c s n v : Int) : (Tryd.prog.info? 40).map (·.size) = some (cmA k c s n v).size := by show _ = some 5; kernel_rfl
end Go.Proofs.YtmpefofifbehjabDoor
