/-
  NARROWER THAN 'FOR EVERY INPUT', by the rows' own cells (each row's printed sentence says how): LineTurns: laid · LineFixed: laid · LineEnd: laid · LineGap: laid · LineWays: laid.
  DERIVED. THE GIVEN ROWS OF THIS SEAT. 5 by the template 'for every input the law returns true; each argument reads behind the call as it read before'; 0 by the template 'total and deterministic' (their statements: YtpoaabjpeigooabDoorTotals.lean).
  GIVEN WITH THE SEED: the statements are not yours to turn. If you find one false, say at which input.
  Laid BY PROGRAM, IN A SANDBOX (cutbox-rows.mjs): the forced cells as the released guide's own fill.sh prints them over the translation 3fda54144f8a0ea8… (all of the seat's roots in one cut). By AI agents, Wed Nov 11 2026. No macro, syntax, notation, axiom, sorry.
-/
import Derived.Test.YtpoaabjpeigooabDoorChecked
import GoSem.Claim
import GoSem.ClaimJoined
import GoSem.ClaimMapViews
import Derived.JoinedTies
import Derived.KernelRfl
namespace Go.Proofs.YtpoaabjpeigooabDoor
/- THE CELL 'sum', in the pinned program and in every row, IS THE sha256 OF THE DUMP (.gsa) THAT YtpoaabjpeigooabDoorProg.lean LOADS. Nothing in Lean hashes anything: it is a label: what it is worth is what the hold of that sum in a sandbox is worth. -/
noncomputable def Tryd.pinned : Pinned := { name := "ytpoaabjpeigooabdoor", sum := "3fda54144f8a0ea8a40d2f51d2e3b11c0b555bf59ff7838901e13ede4d7923ee", checked := Tryd.checked }
namespace Rows
def none {H : Type} : Left H := { results := [], args := [] }

/- WHAT THE LISTED PACKAGE-LEVEL VARIABLES READ AS WHEN THE CALL BEGINS. Each datum BY PROGRAM (the guide's laid-datum.mjs) off the statement by which the dump's own 'gosem.cut.vars' lays the variable. In a bare row this is a premise. The card (YtpoaabjpeigooabDoorCards.lean) ties it to the program's text. -/
def laid_conclave_cha_quarters {H : Type} : DataW H := .agg [.agg [.lit (.int .i64 0), .lit (.int .i64 4), .lit (.int .i64 8), .lit (.int .i64 12)], .agg [.lit (.int .i64 1), .lit (.int .i64 5), .lit (.int .i64 9), .lit (.int .i64 13)], .agg [.lit (.int .i64 2), .lit (.int .i64 6), .lit (.int .i64 10), .lit (.int .i64 14)], .agg [.lit (.int .i64 3), .lit (.int .i64 7), .lit (.int .i64 11), .lit (.int .i64 15)], .agg [.lit (.int .i64 0), .lit (.int .i64 5), .lit (.int .i64 10), .lit (.int .i64 15)], .agg [.lit (.int .i64 1), .lit (.int .i64 6), .lit (.int .i64 11), .lit (.int .i64 12)], .agg [.lit (.int .i64 2), .lit (.int .i64 7), .lit (.int .i64 8), .lit (.int .i64 13)], .agg [.lit (.int .i64 3), .lit (.int .i64 4), .lit (.int .i64 9), .lit (.int .i64 14)]]

/-- 'conclavekeep.LineTurns': WHATEVER THE INPUT: true; the input reads as it did. -/
def lineTurnsSpec : ChangeSpec := { name := "lineTurns", fn := fun _ => fun
  | [d1, d2, d3] => { results := [.lit (.bool true)], args := [d1, d2, d3] }
  | _ => none }
def lineTurnsRow : OpenClaim := { program := "ytpoaabjpeigooabdoor", sum := "3fda54144f8a0ea8a40d2f51d2e3b11c0b555bf59ff7838901e13ede4d7923ee", func := "conclave/conclavekeep.LineTurns", spec := "lineTurns", named := ["conclave/cha.quarters"], apart := false, laid := [("conclave/cha.quarters", laid_conclave_cha_quarters)] }
def LineTurnsSaid : Prop := lineTurnsRow.holds Tryd.pinned (OpenSpec.ofChange lineTurnsSpec)

/-- ITS FALSE NEIGHBOUR: 'it returns false'. Refute it at one input. -/
def lineTurnsWrong : ChangeSpec := { name := "lineTurns", fn := fun _ => fun
  | [d1, d2, d3] => { results := [.lit (.bool false)], args := [d1, d2, d3] }
  | _ => none }
def LineTurnsWrongFalsely : Prop := lineTurnsRow.holds Tryd.pinned (OpenSpec.ofChange lineTurnsWrong)

/-- 'conclavekeep.LineFixed': WHATEVER THE INPUT: true; the input reads as it did. -/
def lineFixedSpec : ChangeSpec := { name := "lineFixed", fn := fun _ => fun
  | [d1, d2] => { results := [.lit (.bool true)], args := [d1, d2] }
  | _ => none }
def lineFixedRow : OpenClaim := { program := "ytpoaabjpeigooabdoor", sum := "3fda54144f8a0ea8a40d2f51d2e3b11c0b555bf59ff7838901e13ede4d7923ee", func := "conclave/conclavekeep.LineFixed", spec := "lineFixed", named := ["conclave/cha.quarters"], apart := false, laid := [("conclave/cha.quarters", laid_conclave_cha_quarters)] }
def LineFixedSaid : Prop := lineFixedRow.holds Tryd.pinned (OpenSpec.ofChange lineFixedSpec)

/-- ITS FALSE NEIGHBOUR: 'it returns false'. Refute it at one input. -/
def lineFixedWrong : ChangeSpec := { name := "lineFixed", fn := fun _ => fun
  | [d1, d2] => { results := [.lit (.bool false)], args := [d1, d2] }
  | _ => none }
def LineFixedWrongFalsely : Prop := lineFixedRow.holds Tryd.pinned (OpenSpec.ofChange lineFixedWrong)

/-- 'conclavekeep.LineEnd': WHATEVER THE INPUT: true; the input reads as it did. -/
def lineEndSpec : ChangeSpec := { name := "lineEnd", fn := fun _ => fun
  | [d1, d2, d3] => { results := [.lit (.bool true)], args := [d1, d2, d3] }
  | _ => none }
def lineEndRow : OpenClaim := { program := "ytpoaabjpeigooabdoor", sum := "3fda54144f8a0ea8a40d2f51d2e3b11c0b555bf59ff7838901e13ede4d7923ee", func := "conclave/conclavekeep.LineEnd", spec := "lineEnd", named := ["conclave/cha.quarters"], apart := false, laid := [("conclave/cha.quarters", laid_conclave_cha_quarters)] }
def LineEndSaid : Prop := lineEndRow.holds Tryd.pinned (OpenSpec.ofChange lineEndSpec)

/-- ITS FALSE NEIGHBOUR: 'it returns false'. Refute it at one input. -/
def lineEndWrong : ChangeSpec := { name := "lineEnd", fn := fun _ => fun
  | [d1, d2, d3] => { results := [.lit (.bool false)], args := [d1, d2, d3] }
  | _ => none }
def LineEndWrongFalsely : Prop := lineEndRow.holds Tryd.pinned (OpenSpec.ofChange lineEndWrong)

/-- 'conclavekeep.LineGap': WHATEVER THE INPUT: true; the input reads as it did. -/
def lineGapSpec : ChangeSpec := { name := "lineGap", fn := fun _ => fun
  | [d1, d2, d3] => { results := [.lit (.bool true)], args := [d1, d2, d3] }
  | _ => none }
def lineGapRow : OpenClaim := { program := "ytpoaabjpeigooabdoor", sum := "3fda54144f8a0ea8a40d2f51d2e3b11c0b555bf59ff7838901e13ede4d7923ee", func := "conclave/conclavekeep.LineGap", spec := "lineGap", named := ["conclave/cha.quarters"], apart := false, laid := [("conclave/cha.quarters", laid_conclave_cha_quarters)] }
def LineGapSaid : Prop := lineGapRow.holds Tryd.pinned (OpenSpec.ofChange lineGapSpec)

/-- ITS FALSE NEIGHBOUR: 'it returns false'. Refute it at one input. -/
def lineGapWrong : ChangeSpec := { name := "lineGap", fn := fun _ => fun
  | [d1, d2, d3] => { results := [.lit (.bool false)], args := [d1, d2, d3] }
  | _ => none }
def LineGapWrongFalsely : Prop := lineGapRow.holds Tryd.pinned (OpenSpec.ofChange lineGapWrong)

/-- 'conclavekeep.LineWays': WHATEVER THE INPUT: true; the input reads as it did. -/
def lineWaysSpec : ChangeSpec := { name := "lineWays", fn := fun _ => fun
  | [d1, d2] => { results := [.lit (.bool true)], args := [d1, d2] }
  | _ => none }
def lineWaysRow : OpenClaim := { program := "ytpoaabjpeigooabdoor", sum := "3fda54144f8a0ea8a40d2f51d2e3b11c0b555bf59ff7838901e13ede4d7923ee", func := "conclave/conclavekeep.LineWays", spec := "lineWays", named := ["conclave/cha.quarters"], apart := false, laid := [("conclave/cha.quarters", laid_conclave_cha_quarters)] }
def LineWaysSaid : Prop := lineWaysRow.holds Tryd.pinned (OpenSpec.ofChange lineWaysSpec)

/-- ITS FALSE NEIGHBOUR: 'it returns false'. Refute it at one input. -/
def lineWaysWrong : ChangeSpec := { name := "lineWays", fn := fun _ => fun
  | [d1, d2] => { results := [.lit (.bool false)], args := [d1, d2] }
  | _ => none }
def LineWaysWrongFalsely : Prop := lineWaysRow.holds Tryd.pinned (OpenSpec.ofChange lineWaysWrong)

/- THE SECOND FORM. 'bulk': how many values and letters a reading holds, each counted each time it is reached (what is shared counts as often as it is met; a slice's spare places count too). A statement '..UptoSaid' is the law's where the arguments, and the package variables that the reading takes, are together of bulk at most 1048576: NARROWER than '..Said'. Prove '..Said' where nothing that the law and all that it calls make is longer than what came in: it says more and counts as full. Else prove '..UptoSaid'. A law counts once. -/
mutual
def uptoBulk {H : Type} : DataW H → Nat
  | .lit (.string bytes) => bytes.length + 1
  | .lit _ => 1
  | .nil => 1
  | .ptr d => uptoBulk d + 1
  | .slice elems spare => uptoBulkAll elems + uptoBulkAll spare + 1
  | .agg parts => uptoBulkAll parts + 1
  | .iface _ d => uptoBulk d + 1
  | .map entries => uptoBulkEntries entries + 1
  | .held _ => 1
def uptoBulkAll {H : Type} : List (DataW H) → Nat
  | [] => 0
  | d :: r => uptoBulk d + uptoBulkAll r
def uptoBulkEntries {H : Type} : List (Lit × DataW H) → Nat
  | [] => 0
  | x :: r => uptoBulkEntry x + uptoBulkEntries r
def uptoBulkEntry {H : Type} : Lit × DataW H → Nat
  | (.string bytes, d) => bytes.length + uptoBulk d + 1
  | (_, d) => uptoBulk d + 1
 end
def uptoSmall : (H : Type) → List (DataW H) → Bool := fun _ ds => decide (uptoBulkAll ds ≤ 1048576)
def OpenSpec.upto (s : _root_.Go.ChangeSpec) : _root_.Go.OpenSpec := { _root_.Go.OpenSpec.ofChange s with cond := some uptoSmall }

/-- 'conclavekeep.LineTurns', WHERE WHAT IT READS IS OF BULK AT MOST 1048576: true; the input reads as it did. -/
def lineTurnsUptoRow : OpenClaim := { program := "ytpoaabjpeigooabdoor", sum := "3fda54144f8a0ea8a40d2f51d2e3b11c0b555bf59ff7838901e13ede4d7923ee", func := "conclave/conclavekeep.LineTurns", spec := "lineTurns", named := ["conclave/cha.quarters"], apart := false, laid := [("conclave/cha.quarters", laid_conclave_cha_quarters)], narrowed := true }
def LineTurnsUptoSaid : Prop := lineTurnsUptoRow.holds Tryd.pinned (OpenSpec.upto lineTurnsSpec)

/-- 'conclavekeep.LineFixed', WHERE WHAT IT READS IS OF BULK AT MOST 1048576: true; the input reads as it did. -/
def lineFixedUptoRow : OpenClaim := { program := "ytpoaabjpeigooabdoor", sum := "3fda54144f8a0ea8a40d2f51d2e3b11c0b555bf59ff7838901e13ede4d7923ee", func := "conclave/conclavekeep.LineFixed", spec := "lineFixed", named := ["conclave/cha.quarters"], apart := false, laid := [("conclave/cha.quarters", laid_conclave_cha_quarters)], narrowed := true }
def LineFixedUptoSaid : Prop := lineFixedUptoRow.holds Tryd.pinned (OpenSpec.upto lineFixedSpec)

/-- 'conclavekeep.LineEnd', WHERE WHAT IT READS IS OF BULK AT MOST 1048576: true; the input reads as it did. -/
def lineEndUptoRow : OpenClaim := { program := "ytpoaabjpeigooabdoor", sum := "3fda54144f8a0ea8a40d2f51d2e3b11c0b555bf59ff7838901e13ede4d7923ee", func := "conclave/conclavekeep.LineEnd", spec := "lineEnd", named := ["conclave/cha.quarters"], apart := false, laid := [("conclave/cha.quarters", laid_conclave_cha_quarters)], narrowed := true }
def LineEndUptoSaid : Prop := lineEndUptoRow.holds Tryd.pinned (OpenSpec.upto lineEndSpec)

/-- 'conclavekeep.LineGap', WHERE WHAT IT READS IS OF BULK AT MOST 1048576: true; the input reads as it did. -/
def lineGapUptoRow : OpenClaim := { program := "ytpoaabjpeigooabdoor", sum := "3fda54144f8a0ea8a40d2f51d2e3b11c0b555bf59ff7838901e13ede4d7923ee", func := "conclave/conclavekeep.LineGap", spec := "lineGap", named := ["conclave/cha.quarters"], apart := false, laid := [("conclave/cha.quarters", laid_conclave_cha_quarters)], narrowed := true }
def LineGapUptoSaid : Prop := lineGapUptoRow.holds Tryd.pinned (OpenSpec.upto lineGapSpec)

/-- 'conclavekeep.LineWays', WHERE WHAT IT READS IS OF BULK AT MOST 1048576: true; the input reads as it did. -/
def lineWaysUptoRow : OpenClaim := { program := "ytpoaabjpeigooabdoor", sum := "3fda54144f8a0ea8a40d2f51d2e3b11c0b555bf59ff7838901e13ede4d7923ee", func := "conclave/conclavekeep.LineWays", spec := "lineWays", named := ["conclave/cha.quarters"], apart := false, laid := [("conclave/cha.quarters", laid_conclave_cha_quarters)], narrowed := true }
def LineWaysUptoSaid : Prop := lineWaysUptoRow.holds Tryd.pinned (OpenSpec.upto lineWaysSpec)

end Rows
end Go.Proofs.YtpoaabjpeigooabDoor
