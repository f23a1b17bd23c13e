/-
  NARROWER THAN 'FOR EVERY INPUT', by the rows' own cells (each row's printed sentence says how): ActBare: laid.
  DERIVED. THE GIVEN ROWS OF THIS SEAT. 1 by the template 'for every input the law returns true; each argument reads behind the call as it read before'; 0 by the template 'total and deterministic' (their statements: YtlcbebiocmmbaabDoorTotals.lean).
  GIVEN WITH THE SEED: the statements are not yours to turn. If you find one false, say at which input.
  Laid BY PROGRAM, IN A SANDBOX (cutbox-rows.mjs): the forced cells as the released guide's own fill.sh prints them over the translation ed4a0bff16fd9ed2… (all of the seat's roots in one cut). By AI agents, Wed Nov 11 2026. No macro, syntax, notation, axiom, sorry.
-/
import Derived.Test.YtlcbebiocmmbaabDoorChecked
import GoSem.Claim
import GoSem.ClaimJoined
import GoSem.ClaimMapViews
import Derived.JoinedTies
import Derived.KernelRfl
namespace Go.Proofs.YtlcbebiocmmbaabDoor
/- THE CELL 'sum', in the pinned program and in every row, IS THE sha256 OF THE DUMP (.gsa) THAT YtlcbebiocmmbaabDoorProg.lean LOADS. Nothing in Lean hashes anything: it is a label: what it is worth is what the hold of that sum in a sandbox is worth. -/
noncomputable def Tryd.pinned : Pinned := { name := "ytlcbebiocmmbaabdoor", sum := "ed4a0bff16fd9ed227affbe176bafc1e0e2c972b4e90798c12c7c2e2149d90ea", checked := Tryd.checked }
namespace Rows
def none {H : Type} : Left H := { results := [], args := [] }

/- WHAT THE LISTED PACKAGE-LEVEL VARIABLES READ AS WHEN THE CALL BEGINS. Each datum BY PROGRAM (the guide's laid-datum.mjs) off the statement by which the dump's own 'gosem.cut.vars' lays the variable. In a bare row this is a premise. The card (YtlcbebiocmmbaabDoorCards.lean) ties it to the program's text. -/
def laid_conclave_lines_bounds {H : Type} : DataW H := .agg [.lit (.int .i64 4), .lit (.int .i64 1048576), .lit (.int .i64 100000)]
def laid_conclave_lines_words {H : Type} : DataW H := .agg [.agg [.lit (.string []), .agg [.lit (.bool false), .lit (.bool false), .lit (.bool false)]], .agg [.lit (.string [115, 117, 98, 109, 105, 116]), .agg [.lit (.bool true), .lit (.bool false), .lit (.bool false)]], .agg [.lit (.string [108, 101, 97, 100]), .agg [.lit (.bool true), .lit (.bool false), .lit (.bool false)]], .agg [.lit (.string [115, 116, 101, 112]), .agg [.lit (.bool true), .lit (.bool false), .lit (.bool false)]], .agg [.lit (.string [99, 97, 114, 114, 121]), .agg [.lit (.bool false), .lit (.bool true), .lit (.bool false)]], .agg [.lit (.string [108, 111, 115, 101]), .agg [.lit (.bool false), .lit (.bool true), .lit (.bool false)]], .agg [.lit (.string [100, 111, 117, 98, 108, 101]), .agg [.lit (.bool false), .lit (.bool true), .lit (.bool false)]], .agg [.lit (.string [97, 108, 108]), .agg [.lit (.bool false), .lit (.bool false), .lit (.bool false)]], .agg [.lit (.string [99, 114, 97, 115, 104]), .agg [.lit (.bool true), .lit (.bool false), .lit (.bool true)]], .agg [.lit (.string [115, 116, 97, 114, 116]), .agg [.lit (.bool true), .lit (.bool false), .lit (.bool false)]]]

/-- 'conclavekeep.ActBare': WHATEVER THE INPUT: true; the input reads as it did. -/
def actBareSpec : ChangeSpec := { name := "actBare", fn := fun _ => fun
  | [d1, d2] => { results := [.lit (.bool true)], args := [d1, d2] }
  | _ => none }
def actBareRow : OpenClaim := { program := "ytlcbebiocmmbaabdoor", sum := "ed4a0bff16fd9ed227affbe176bafc1e0e2c972b4e90798c12c7c2e2149d90ea", func := "conclave/conclavekeep.ActBare", spec := "actBare", named := ["conclave/lines.words", "conclave/lines.bounds"], apart := false, laid := [("conclave/lines.bounds", laid_conclave_lines_bounds), ("conclave/lines.words", laid_conclave_lines_words)] }
def ActBareSaid : Prop := actBareRow.holds Tryd.pinned (OpenSpec.ofChange actBareSpec)

/-- ITS FALSE NEIGHBOUR: 'it returns false'. Refute it at one input. -/
def actBareWrong : ChangeSpec := { name := "actBare", fn := fun _ => fun
  | [d1, d2] => { results := [.lit (.bool false)], args := [d1, d2] }
  | _ => none }
def ActBareWrongFalsely : Prop := actBareRow.holds Tryd.pinned (OpenSpec.ofChange actBareWrong)

/- THE SECOND FORM. 'bulk': how many values and letters a reading holds, each counted each time it is reached (what is shared counts as often as it is met; a slice's spare places count too). A statement '..UptoSaid' is the law's where the arguments, and the package variables that the reading takes, are together of bulk at most 1048576: NARROWER than '..Said'. Prove '..Said' where nothing that the law and all that it calls make is longer than what came in: it says more and counts as full. Else prove '..UptoSaid'. A law counts once. -/
mutual
def uptoBulk {H : Type} : DataW H → Nat
  | .lit (.string bytes) => bytes.length + 1
  | .lit _ => 1
  | .nil => 1
  | .ptr d => uptoBulk d + 1
  | .slice elems spare => uptoBulkAll elems + uptoBulkAll spare + 1
  | .agg parts => uptoBulkAll parts + 1
  | .iface _ d => uptoBulk d + 1
  | .map entries => uptoBulkEntries entries + 1
  | .held _ => 1
def uptoBulkAll {H : Type} : List (DataW H) → Nat
  | [] => 0
  | d :: r => uptoBulk d + uptoBulkAll r
def uptoBulkEntries {H : Type} : List (Lit × DataW H) → Nat
  | [] => 0
  | x :: r => uptoBulkEntry x + uptoBulkEntries r
def uptoBulkEntry {H : Type} : Lit × DataW H → Nat
  | (.string bytes, d) => bytes.length + uptoBulk d + 1
  | (_, d) => uptoBulk d + 1
 end
def uptoSmall : (H : Type) → List (DataW H) → Bool := fun _ ds => decide (uptoBulkAll ds ≤ 1048576)
def OpenSpec.upto (s : _root_.Go.ChangeSpec) : _root_.Go.OpenSpec := { _root_.Go.OpenSpec.ofChange s with cond := some uptoSmall }

/-- 'conclavekeep.ActBare', WHERE WHAT IT READS IS OF BULK AT MOST 1048576: true; the input reads as it did. -/
def actBareUptoRow : OpenClaim := { program := "ytlcbebiocmmbaabdoor", sum := "ed4a0bff16fd9ed227affbe176bafc1e0e2c972b4e90798c12c7c2e2149d90ea", func := "conclave/conclavekeep.ActBare", spec := "actBare", named := ["conclave/lines.words", "conclave/lines.bounds"], apart := false, laid := [("conclave/lines.bounds", laid_conclave_lines_bounds), ("conclave/lines.words", laid_conclave_lines_words)], narrowed := true }
def ActBareUptoSaid : Prop := actBareUptoRow.holds Tryd.pinned (OpenSpec.upto actBareSpec)

end Rows
end Go.Proofs.YtlcbebiocmmbaabDoor
