/-
  NARROWER THAN 'FOR EVERY INPUT', by the rows' own cells (each row's printed sentence says how): CurveThree: laid · KnownCurve: laid · PointNine: laid.
  DERIVED. THE GIVEN ROWS OF THIS SEAT. 3 by the template 'for every input the law returns true; each argument reads behind the call as it read before'; 0 by the template 'total and deterministic' (their statements: YtdhoegkphhekfabDoorTotals.lean).
  GIVEN WITH THE SEED: the statements are not yours to turn. If you find one false, say at which input.
  Laid BY PROGRAM, IN A SANDBOX (cutbox-rows.mjs): the forced cells as the released guide's own fill.sh prints them over the translation e5f9ff27f8b1e2a7… (all of the seat's roots in one cut). By AI agents, Wed Nov 11 2026. No macro, syntax, notation, axiom, sorry.
-/
import Derived.Test.YtdhoegkphhekfabDoorChecked
import GoSem.Claim
import GoSem.ClaimJoined
import GoSem.ClaimMapViews
import Derived.JoinedTies
import Derived.KernelRfl
namespace Go.Proofs.YtdhoegkphhekfabDoor
/- THE CELL 'sum', in the pinned program and in every row, IS THE sha256 OF THE DUMP (.gsa) THAT YtdhoegkphhekfabDoorProg.lean LOADS. Nothing in Lean hashes anything: it is a label: what it is worth is what the hold of that sum in a sandbox is worth. -/
noncomputable def Tryd.pinned : Pinned := { name := "ytdhoegkphhekfabdoor", sum := "e5f9ff27f8b1e2a7195f606d4039e79ee7303f958f4494086648665b1db15fda", checked := Tryd.checked }
namespace Rows
def none {H : Type} : Left H := { results := [], args := [] }

/- WHAT THE LISTED PACKAGE-LEVEL VARIABLES READ AS WHEN THE CALL BEGINS. Each datum BY PROGRAM (the guide's laid-datum.mjs) off the statement by which the dump's own 'gosem.cut.vars' lays the variable. In a bare row this is a premise. The card (YtdhoegkphhekfabDoorCards.lean) ties it to the program's text. -/
def laid_conclave_curve_curveFactor {H : Type} : DataW H := .agg [.lit (.int .i64 56129), .lit (.int .i64 1), .lit (.int .i64 0), .lit (.int .i64 0), .lit (.int .i64 0), .lit (.int .i64 0), .lit (.int .i64 0), .lit (.int .i64 0), .lit (.int .i64 0), .lit (.int .i64 0), .lit (.int .i64 0), .lit (.int .i64 0), .lit (.int .i64 0), .lit (.int .i64 0), .lit (.int .i64 0), .lit (.int .i64 0)]
def laid_conclave_curve_modulus {H : Type} : DataW H := .agg [.lit (.int .i64 65517), .lit (.int .i64 65535), .lit (.int .i64 65535), .lit (.int .i64 65535), .lit (.int .i64 65535), .lit (.int .i64 65535), .lit (.int .i64 65535), .lit (.int .i64 65535), .lit (.int .i64 65535), .lit (.int .i64 65535), .lit (.int .i64 65535), .lit (.int .i64 65535), .lit (.int .i64 65535), .lit (.int .i64 65535), .lit (.int .i64 65535), .lit (.int .i64 32767)]

/-- 'conclavekeep.CurveThree': WHATEVER THE INPUT: true; the input reads as it did. -/
def curveThreeSpec : ChangeSpec := { name := "curveThree", fn := fun _ => fun
  | [d1, d2, d3] => { results := [.lit (.bool true)], args := [d1, d2, d3] }
  | _ => none }
def curveThreeRow : OpenClaim := { program := "ytdhoegkphhekfabdoor", sum := "e5f9ff27f8b1e2a7195f606d4039e79ee7303f958f4494086648665b1db15fda", func := "conclave/conclavekeep.CurveThree", spec := "curveThree", named := ["conclave/curve.curveFactor", "conclave/curve.modulus"], apart := false, laid := [("conclave/curve.curveFactor", laid_conclave_curve_curveFactor), ("conclave/curve.modulus", laid_conclave_curve_modulus)] }
def CurveThreeSaid : Prop := curveThreeRow.holds Tryd.pinned (OpenSpec.ofChange curveThreeSpec)

/-- ITS FALSE NEIGHBOUR: 'it returns false'. Refute it at one input. -/
def curveThreeWrong : ChangeSpec := { name := "curveThree", fn := fun _ => fun
  | [d1, d2, d3] => { results := [.lit (.bool false)], args := [d1, d2, d3] }
  | _ => none }
def CurveThreeWrongFalsely : Prop := curveThreeRow.holds Tryd.pinned (OpenSpec.ofChange curveThreeWrong)

/-- 'conclavekeep.KnownCurve': WHATEVER THE INPUT: true; the input reads as it did. -/
def knownCurveSpec : ChangeSpec := { name := "knownCurve", fn := fun _ => fun
  | [] => { results := [.lit (.bool true)], args := [] }
  | _ => none }
def knownCurveRow : OpenClaim := { program := "ytdhoegkphhekfabdoor", sum := "e5f9ff27f8b1e2a7195f606d4039e79ee7303f958f4494086648665b1db15fda", func := "conclave/conclavekeep.KnownCurve", spec := "knownCurve", named := ["conclave/curve.curveFactor", "conclave/curve.modulus"], apart := false, laid := [("conclave/curve.curveFactor", laid_conclave_curve_curveFactor), ("conclave/curve.modulus", laid_conclave_curve_modulus)] }
def KnownCurveSaid : Prop := knownCurveRow.holds Tryd.pinned (OpenSpec.ofChange knownCurveSpec)

/-- ITS FALSE NEIGHBOUR: 'it returns false'. Refute it at one input. -/
def knownCurveWrong : ChangeSpec := { name := "knownCurve", fn := fun _ => fun
  | [] => { results := [.lit (.bool false)], args := [] }
  | _ => none }
def KnownCurveWrongFalsely : Prop := knownCurveRow.holds Tryd.pinned (OpenSpec.ofChange knownCurveWrong)

/-- 'conclavekeep.PointNine': WHATEVER THE INPUT: true; the input reads as it did. -/
def pointNineSpec : ChangeSpec := { name := "pointNine", fn := fun _ => fun
  | [d] => { results := [.lit (.bool true)], args := [d] }
  | _ => none }
def pointNineRow : OpenClaim := { program := "ytdhoegkphhekfabdoor", sum := "e5f9ff27f8b1e2a7195f606d4039e79ee7303f958f4494086648665b1db15fda", func := "conclave/conclavekeep.PointNine", spec := "pointNine", named := ["conclave/curve.curveFactor", "conclave/curve.modulus"], apart := false, laid := [("conclave/curve.curveFactor", laid_conclave_curve_curveFactor), ("conclave/curve.modulus", laid_conclave_curve_modulus)] }
def PointNineSaid : Prop := pointNineRow.holds Tryd.pinned (OpenSpec.ofChange pointNineSpec)

/-- ITS FALSE NEIGHBOUR: 'it returns false'. Refute it at one input. -/
def pointNineWrong : ChangeSpec := { name := "pointNine", fn := fun _ => fun
  | [d] => { results := [.lit (.bool false)], args := [d] }
  | _ => none }
def PointNineWrongFalsely : Prop := pointNineRow.holds Tryd.pinned (OpenSpec.ofChange pointNineWrong)

/- THE SECOND FORM. 'bulk': how many values and letters a reading holds, each counted each time it is reached (what is shared counts as often as it is met; a slice's spare places count too). A statement '..UptoSaid' is the law's where the arguments, and the package variables that the reading takes, are together of bulk at most 1048576: NARROWER than '..Said'. Prove '..Said' where nothing that the law and all that it calls make is longer than what came in: it says more and counts as full. Else prove '..UptoSaid'. A law counts once. -/
mutual
def uptoBulk {H : Type} : DataW H → Nat
  | .lit (.string bytes) => bytes.length + 1
  | .lit _ => 1
  | .nil => 1
  | .ptr d => uptoBulk d + 1
  | .slice elems spare => uptoBulkAll elems + uptoBulkAll spare + 1
  | .agg parts => uptoBulkAll parts + 1
  | .iface _ d => uptoBulk d + 1
  | .map entries => uptoBulkEntries entries + 1
  | .held _ => 1
def uptoBulkAll {H : Type} : List (DataW H) → Nat
  | [] => 0
  | d :: r => uptoBulk d + uptoBulkAll r
def uptoBulkEntries {H : Type} : List (Lit × DataW H) → Nat
  | [] => 0
  | x :: r => uptoBulkEntry x + uptoBulkEntries r
def uptoBulkEntry {H : Type} : Lit × DataW H → Nat
  | (.string bytes, d) => bytes.length + uptoBulk d + 1
  | (_, d) => uptoBulk d + 1
 end
def uptoSmall : (H : Type) → List (DataW H) → Bool := fun _ ds => decide (uptoBulkAll ds ≤ 1048576)
def OpenSpec.upto (s : _root_.Go.ChangeSpec) : _root_.Go.OpenSpec := { _root_.Go.OpenSpec.ofChange s with cond := some uptoSmall }

/-- 'conclavekeep.CurveThree', WHERE WHAT IT READS IS OF BULK AT MOST 1048576: true; the input reads as it did. -/
def curveThreeUptoRow : OpenClaim := { program := "ytdhoegkphhekfabdoor", sum := "e5f9ff27f8b1e2a7195f606d4039e79ee7303f958f4494086648665b1db15fda", func := "conclave/conclavekeep.CurveThree", spec := "curveThree", named := ["conclave/curve.curveFactor", "conclave/curve.modulus"], apart := false, laid := [("conclave/curve.curveFactor", laid_conclave_curve_curveFactor), ("conclave/curve.modulus", laid_conclave_curve_modulus)], narrowed := true }
def CurveThreeUptoSaid : Prop := curveThreeUptoRow.holds Tryd.pinned (OpenSpec.upto curveThreeSpec)

/-- 'conclavekeep.KnownCurve', WHERE WHAT IT READS IS OF BULK AT MOST 1048576: true; the input reads as it did. -/
def knownCurveUptoRow : OpenClaim := { program := "ytdhoegkphhekfabdoor", sum := "e5f9ff27f8b1e2a7195f606d4039e79ee7303f958f4494086648665b1db15fda", func := "conclave/conclavekeep.KnownCurve", spec := "knownCurve", named := ["conclave/curve.curveFactor", "conclave/curve.modulus"], apart := false, laid := [("conclave/curve.curveFactor", laid_conclave_curve_curveFactor), ("conclave/curve.modulus", laid_conclave_curve_modulus)], narrowed := true }
def KnownCurveUptoSaid : Prop := knownCurveUptoRow.holds Tryd.pinned (OpenSpec.upto knownCurveSpec)

/-- 'conclavekeep.PointNine', WHERE WHAT IT READS IS OF BULK AT MOST 1048576: true; the input reads as it did. -/
def pointNineUptoRow : OpenClaim := { program := "ytdhoegkphhekfabdoor", sum := "e5f9ff27f8b1e2a7195f606d4039e79ee7303f958f4494086648665b1db15fda", func := "conclave/conclavekeep.PointNine", spec := "pointNine", named := ["conclave/curve.curveFactor", "conclave/curve.modulus"], apart := false, laid := [("conclave/curve.curveFactor", laid_conclave_curve_curveFactor), ("conclave/curve.modulus", laid_conclave_curve_modulus)], narrowed := true }
def PointNineUptoSaid : Prop := pointNineUptoRow.holds Tryd.pinned (OpenSpec.upto pointNineSpec)

end Rows
end Go.Proofs.YtdhoegkphhekfabDoor
