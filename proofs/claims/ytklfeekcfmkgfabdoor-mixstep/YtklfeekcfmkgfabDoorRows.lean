/-
  NARROWER THAN 'FOR EVERY INPUT', by the rows' own cells (each row's printed sentence says how): MixBlocks: laid · MixStep: laid · KnownBlock: laid.
  DERIVED. THE GIVEN ROWS OF THIS SEAT. 3 by the template 'for every input the law returns true; each argument reads behind the call as it read before'; 0 by the template 'total and deterministic' (their statements: YtklfeekcfmkgfabDoorTotals.lean).
  GIVEN WITH THE SEED: the statements are not yours to turn. If you find one false, say at which input.
  Laid BY PROGRAM, IN A SANDBOX (cutbox-rows.mjs): the forced cells as the released guide's own fill.sh prints them over the translation 3f0b6e8ba71b5cf3… (all of the seat's roots in one cut). By AI agents, Wed Nov 11 2026. No macro, syntax, notation, axiom, sorry.
-/
import Derived.Test.YtklfeekcfmkgfabDoorChecked
import GoSem.Claim
import GoSem.ClaimJoined
import GoSem.ClaimMapViews
import Derived.JoinedTies
import Derived.KernelRfl
namespace Go.Proofs.YtklfeekcfmkgfabDoor
/- THE CELL 'sum', in the pinned program and in every row, IS THE sha256 OF THE DUMP (.gsa) THAT YtklfeekcfmkgfabDoorProg.lean LOADS. Nothing in Lean hashes anything: it is a label: what it is worth is what the hold of that sum in a sandbox is worth. -/
noncomputable def Tryd.pinned : Pinned := { name := "ytklfeekcfmkgfabdoor", sum := "3f0b6e8ba71b5cf3008a5ef076391343974174a94b4131dfed68d5dc7250bef4", checked := Tryd.checked }
namespace Rows
def none {H : Type} : Left H := { results := [], args := [] }

/- WHAT THE LISTED PACKAGE-LEVEL VARIABLES READ AS WHEN THE CALL BEGINS. Each datum BY PROGRAM (the guide's laid-datum.mjs) off the statement by which the dump's own 'gosem.cut.vars' lays the variable. In a bare row this is a premise. The card (YtklfeekcfmkgfabDoorCards.lean) ties it to the program's text. -/
def laid_conclave_cha_quarters {H : Type} : DataW H := .agg [.agg [.lit (.int .i64 0), .lit (.int .i64 4), .lit (.int .i64 8), .lit (.int .i64 12)], .agg [.lit (.int .i64 1), .lit (.int .i64 5), .lit (.int .i64 9), .lit (.int .i64 13)], .agg [.lit (.int .i64 2), .lit (.int .i64 6), .lit (.int .i64 10), .lit (.int .i64 14)], .agg [.lit (.int .i64 3), .lit (.int .i64 7), .lit (.int .i64 11), .lit (.int .i64 15)], .agg [.lit (.int .i64 0), .lit (.int .i64 5), .lit (.int .i64 10), .lit (.int .i64 15)], .agg [.lit (.int .i64 1), .lit (.int .i64 6), .lit (.int .i64 11), .lit (.int .i64 12)], .agg [.lit (.int .i64 2), .lit (.int .i64 7), .lit (.int .i64 8), .lit (.int .i64 13)], .agg [.lit (.int .i64 3), .lit (.int .i64 4), .lit (.int .i64 9), .lit (.int .i64 14)]]

/-- 'conclavekeep.MixBlocks': WHATEVER THE INPUT: true; the input reads as it did. -/
def mixBlocksSpec : ChangeSpec := { name := "mixBlocks", fn := fun _ => fun
  | [d1, d2, d3, d4] => { results := [.lit (.bool true)], args := [d1, d2, d3, d4] }
  | _ => none }
def mixBlocksRow : OpenClaim := { program := "ytklfeekcfmkgfabdoor", sum := "3f0b6e8ba71b5cf3008a5ef076391343974174a94b4131dfed68d5dc7250bef4", func := "conclave/conclavekeep.MixBlocks", spec := "mixBlocks", named := ["conclave/cha.quarters"], apart := false, laid := [("conclave/cha.quarters", laid_conclave_cha_quarters)] }
def MixBlocksSaid : Prop := mixBlocksRow.holds Tryd.pinned (OpenSpec.ofChange mixBlocksSpec)

/-- ITS FALSE NEIGHBOUR: 'it returns false'. Refute it at one input. -/
def mixBlocksWrong : ChangeSpec := { name := "mixBlocks", fn := fun _ => fun
  | [d1, d2, d3, d4] => { results := [.lit (.bool false)], args := [d1, d2, d3, d4] }
  | _ => none }
def MixBlocksWrongFalsely : Prop := mixBlocksRow.holds Tryd.pinned (OpenSpec.ofChange mixBlocksWrong)

/-- 'conclavekeep.MixStep': WHATEVER THE INPUT: true; the input reads as it did. -/
def mixStepSpec : ChangeSpec := { name := "mixStep", fn := fun _ => fun
  | [d1, d2, d3, d4] => { results := [.lit (.bool true)], args := [d1, d2, d3, d4] }
  | _ => none }
def mixStepRow : OpenClaim := { program := "ytklfeekcfmkgfabdoor", sum := "3f0b6e8ba71b5cf3008a5ef076391343974174a94b4131dfed68d5dc7250bef4", func := "conclave/conclavekeep.MixStep", spec := "mixStep", named := ["conclave/cha.quarters"], apart := false, laid := [("conclave/cha.quarters", laid_conclave_cha_quarters)] }
def MixStepSaid : Prop := mixStepRow.holds Tryd.pinned (OpenSpec.ofChange mixStepSpec)

/-- ITS FALSE NEIGHBOUR: 'it returns false'. Refute it at one input. -/
def mixStepWrong : ChangeSpec := { name := "mixStep", fn := fun _ => fun
  | [d1, d2, d3, d4] => { results := [.lit (.bool false)], args := [d1, d2, d3, d4] }
  | _ => none }
def MixStepWrongFalsely : Prop := mixStepRow.holds Tryd.pinned (OpenSpec.ofChange mixStepWrong)

/-- 'conclavekeep.KnownBlock': WHATEVER THE INPUT: true; the input reads as it did. -/
def knownBlockSpec : ChangeSpec := { name := "knownBlock", fn := fun _ => fun
  | [] => { results := [.lit (.bool true)], args := [] }
  | _ => none }
def knownBlockRow : OpenClaim := { program := "ytklfeekcfmkgfabdoor", sum := "3f0b6e8ba71b5cf3008a5ef076391343974174a94b4131dfed68d5dc7250bef4", func := "conclave/conclavekeep.KnownBlock", spec := "knownBlock", named := ["conclave/cha.quarters"], apart := false, laid := [("conclave/cha.quarters", laid_conclave_cha_quarters)] }
def KnownBlockSaid : Prop := knownBlockRow.holds Tryd.pinned (OpenSpec.ofChange knownBlockSpec)

/-- ITS FALSE NEIGHBOUR: 'it returns false'. Refute it at one input. -/
def knownBlockWrong : ChangeSpec := { name := "knownBlock", fn := fun _ => fun
  | [] => { results := [.lit (.bool false)], args := [] }
  | _ => none }
def KnownBlockWrongFalsely : Prop := knownBlockRow.holds Tryd.pinned (OpenSpec.ofChange knownBlockWrong)

/- THE SECOND FORM. 'bulk': how many values and letters a reading holds, each counted each time it is reached (what is shared counts as often as it is met; a slice's spare places count too). A statement '..UptoSaid' is the law's where the arguments, and the package variables that the reading takes, are together of bulk at most 1048576: NARROWER than '..Said'. Prove '..Said' where nothing that the law and all that it calls make is longer than what came in: it says more and counts as full. Else prove '..UptoSaid'. A law counts once. -/
mutual
def uptoBulk {H : Type} : DataW H → Nat
  | .lit (.string bytes) => bytes.length + 1
  | .lit _ => 1
  | .nil => 1
  | .ptr d => uptoBulk d + 1
  | .slice elems spare => uptoBulkAll elems + uptoBulkAll spare + 1
  | .agg parts => uptoBulkAll parts + 1
  | .iface _ d => uptoBulk d + 1
  | .map entries => uptoBulkEntries entries + 1
  | .held _ => 1
def uptoBulkAll {H : Type} : List (DataW H) → Nat
  | [] => 0
  | d :: r => uptoBulk d + uptoBulkAll r
def uptoBulkEntries {H : Type} : List (Lit × DataW H) → Nat
  | [] => 0
  | x :: r => uptoBulkEntry x + uptoBulkEntries r
def uptoBulkEntry {H : Type} : Lit × DataW H → Nat
  | (.string bytes, d) => bytes.length + uptoBulk d + 1
  | (_, d) => uptoBulk d + 1
 end
def uptoSmall : (H : Type) → List (DataW H) → Bool := fun _ ds => decide (uptoBulkAll ds ≤ 1048576)
def OpenSpec.upto (s : _root_.Go.ChangeSpec) : _root_.Go.OpenSpec := { _root_.Go.OpenSpec.ofChange s with cond := some uptoSmall }

/-- 'conclavekeep.MixBlocks', WHERE WHAT IT READS IS OF BULK AT MOST 1048576: true; the input reads as it did. -/
def mixBlocksUptoRow : OpenClaim := { program := "ytklfeekcfmkgfabdoor", sum := "3f0b6e8ba71b5cf3008a5ef076391343974174a94b4131dfed68d5dc7250bef4", func := "conclave/conclavekeep.MixBlocks", spec := "mixBlocks", named := ["conclave/cha.quarters"], apart := false, laid := [("conclave/cha.quarters", laid_conclave_cha_quarters)], narrowed := true }
def MixBlocksUptoSaid : Prop := mixBlocksUptoRow.holds Tryd.pinned (OpenSpec.upto mixBlocksSpec)

/-- 'conclavekeep.MixStep', WHERE WHAT IT READS IS OF BULK AT MOST 1048576: true; the input reads as it did. -/
def mixStepUptoRow : OpenClaim := { program := "ytklfeekcfmkgfabdoor", sum := "3f0b6e8ba71b5cf3008a5ef076391343974174a94b4131dfed68d5dc7250bef4", func := "conclave/conclavekeep.MixStep", spec := "mixStep", named := ["conclave/cha.quarters"], apart := false, laid := [("conclave/cha.quarters", laid_conclave_cha_quarters)], narrowed := true }
def MixStepUptoSaid : Prop := mixStepUptoRow.holds Tryd.pinned (OpenSpec.upto mixStepSpec)

/-- 'conclavekeep.KnownBlock', WHERE WHAT IT READS IS OF BULK AT MOST 1048576: true; the input reads as it did. -/
def knownBlockUptoRow : OpenClaim := { program := "ytklfeekcfmkgfabdoor", sum := "3f0b6e8ba71b5cf3008a5ef076391343974174a94b4131dfed68d5dc7250bef4", func := "conclave/conclavekeep.KnownBlock", spec := "knownBlock", named := ["conclave/cha.quarters"], apart := false, laid := [("conclave/cha.quarters", laid_conclave_cha_quarters)], narrowed := true }
def KnownBlockUptoSaid : Prop := knownBlockUptoRow.holds Tryd.pinned (OpenSpec.upto knownBlockSpec)

end Rows
end Go.Proofs.YtklfeekcfmkgfabDoor
