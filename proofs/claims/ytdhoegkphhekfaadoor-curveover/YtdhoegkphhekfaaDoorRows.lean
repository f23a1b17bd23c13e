/-
  NARROWER THAN 'FOR EVERY INPUT', by the rows' own cells (each row's printed sentence says how): CurveShareds: laid · CurvePoints: laid · CurveShare: laid · CurveBits: laid · CurveSmall: laid · CurveOver: laid.
  DERIVED. THE GIVEN ROWS OF THIS SEAT. 6 by the template 'for every input the law returns true; each argument reads behind the call as it read before'; 0 by the template 'total and deterministic' (their statements: YtdhoegkphhekfaaDoorTotals.lean).
  GIVEN WITH THE SEED: the statements are not yours to turn. If you find one false, say at which input.
  Laid BY PROGRAM, IN A SANDBOX (cutbox-rows.mjs): the forced cells as the released guide's own fill.sh prints them over the translation 3bbd832dfa6585ed… (all of the seat's roots in one cut). By AI agents, Wed Nov 11 2026. No macro, syntax, notation, axiom, sorry.
-/
import Derived.Test.YtdhoegkphhekfaaDoorChecked
import GoSem.Claim
import GoSem.ClaimJoined
import GoSem.ClaimMapViews
import Derived.JoinedTies
import Derived.KernelRfl
namespace Go.Proofs.YtdhoegkphhekfaaDoor
/- THE CELL 'sum', in the pinned program and in every row, IS THE sha256 OF THE DUMP (.gsa) THAT YtdhoegkphhekfaaDoorProg.lean LOADS. Nothing in Lean hashes anything: it is a label: what it is worth is what the hold of that sum in a sandbox is worth. -/
noncomputable def Tryd.pinned : Pinned := { name := "ytdhoegkphhekfaadoor", sum := "3bbd832dfa6585eda904f4be8903db7392dbe378254daedfb3f798f6b33a5a71", checked := Tryd.checked }
namespace Rows
def none {H : Type} : Left H := { results := [], args := [] }

/- WHAT THE LISTED PACKAGE-LEVEL VARIABLES READ AS WHEN THE CALL BEGINS. Each datum BY PROGRAM (the guide's laid-datum.mjs) off the statement by which the dump's own 'gosem.cut.vars' lays the variable. In a bare row this is a premise. The card (YtdhoegkphhekfaaDoorCards.lean) ties it to the program's text. -/
def laid_conclave_curve_curveFactor {H : Type} : DataW H := .agg [.lit (.int .i64 56129), .lit (.int .i64 1), .lit (.int .i64 0), .lit (.int .i64 0), .lit (.int .i64 0), .lit (.int .i64 0), .lit (.int .i64 0), .lit (.int .i64 0), .lit (.int .i64 0), .lit (.int .i64 0), .lit (.int .i64 0), .lit (.int .i64 0), .lit (.int .i64 0), .lit (.int .i64 0), .lit (.int .i64 0), .lit (.int .i64 0)]
def laid_conclave_curve_modulus {H : Type} : DataW H := .agg [.lit (.int .i64 65517), .lit (.int .i64 65535), .lit (.int .i64 65535), .lit (.int .i64 65535), .lit (.int .i64 65535), .lit (.int .i64 65535), .lit (.int .i64 65535), .lit (.int .i64 65535), .lit (.int .i64 65535), .lit (.int .i64 65535), .lit (.int .i64 65535), .lit (.int .i64 65535), .lit (.int .i64 65535), .lit (.int .i64 65535), .lit (.int .i64 65535), .lit (.int .i64 32767)]

/-- 'conclavelaw.CurveShareds': WHATEVER THE INPUT: true; the input reads as it did. -/
def curveSharedsSpec : ChangeSpec := { name := "curveShareds", fn := fun _ => fun
  | [d1, d2] => { results := [.lit (.bool true)], args := [d1, d2] }
  | _ => none }
def curveSharedsRow : OpenClaim := { program := "ytdhoegkphhekfaadoor", sum := "3bbd832dfa6585eda904f4be8903db7392dbe378254daedfb3f798f6b33a5a71", func := "conclave/conclavelaw.CurveShareds", spec := "curveShareds", named := ["conclave/curve.curveFactor", "conclave/curve.modulus"], apart := false, laid := [("conclave/curve.curveFactor", laid_conclave_curve_curveFactor), ("conclave/curve.modulus", laid_conclave_curve_modulus)] }
def CurveSharedsSaid : Prop := curveSharedsRow.holds Tryd.pinned (OpenSpec.ofChange curveSharedsSpec)

/-- ITS FALSE NEIGHBOUR: 'it returns false'. Refute it at one input. -/
def curveSharedsWrong : ChangeSpec := { name := "curveShareds", fn := fun _ => fun
  | [d1, d2] => { results := [.lit (.bool false)], args := [d1, d2] }
  | _ => none }
def CurveSharedsWrongFalsely : Prop := curveSharedsRow.holds Tryd.pinned (OpenSpec.ofChange curveSharedsWrong)

/-- 'conclavelaw.CurvePoints': WHATEVER THE INPUT: true; the input reads as it did. -/
def curvePointsSpec : ChangeSpec := { name := "curvePoints", fn := fun _ => fun
  | [d] => { results := [.lit (.bool true)], args := [d] }
  | _ => none }
def curvePointsRow : OpenClaim := { program := "ytdhoegkphhekfaadoor", sum := "3bbd832dfa6585eda904f4be8903db7392dbe378254daedfb3f798f6b33a5a71", func := "conclave/conclavelaw.CurvePoints", spec := "curvePoints", named := ["conclave/curve.curveFactor", "conclave/curve.modulus"], apart := false, laid := [("conclave/curve.curveFactor", laid_conclave_curve_curveFactor), ("conclave/curve.modulus", laid_conclave_curve_modulus)] }
def CurvePointsSaid : Prop := curvePointsRow.holds Tryd.pinned (OpenSpec.ofChange curvePointsSpec)

/-- ITS FALSE NEIGHBOUR: 'it returns false'. Refute it at one input. -/
def curvePointsWrong : ChangeSpec := { name := "curvePoints", fn := fun _ => fun
  | [d] => { results := [.lit (.bool false)], args := [d] }
  | _ => none }
def CurvePointsWrongFalsely : Prop := curvePointsRow.holds Tryd.pinned (OpenSpec.ofChange curvePointsWrong)

/-- 'conclavekeep.CurveShare': WHATEVER THE INPUT: true; the input reads as it did. -/
def curveShareSpec : ChangeSpec := { name := "curveShare", fn := fun _ => fun
  | [d1, d2] => { results := [.lit (.bool true)], args := [d1, d2] }
  | _ => none }
def curveShareRow : OpenClaim := { program := "ytdhoegkphhekfaadoor", sum := "3bbd832dfa6585eda904f4be8903db7392dbe378254daedfb3f798f6b33a5a71", func := "conclave/conclavekeep.CurveShare", spec := "curveShare", named := ["conclave/curve.curveFactor", "conclave/curve.modulus"], apart := false, laid := [("conclave/curve.curveFactor", laid_conclave_curve_curveFactor), ("conclave/curve.modulus", laid_conclave_curve_modulus)] }
def CurveShareSaid : Prop := curveShareRow.holds Tryd.pinned (OpenSpec.ofChange curveShareSpec)

/-- ITS FALSE NEIGHBOUR: 'it returns false'. Refute it at one input. -/
def curveShareWrong : ChangeSpec := { name := "curveShare", fn := fun _ => fun
  | [d1, d2] => { results := [.lit (.bool false)], args := [d1, d2] }
  | _ => none }
def CurveShareWrongFalsely : Prop := curveShareRow.holds Tryd.pinned (OpenSpec.ofChange curveShareWrong)

/-- 'conclavekeep.CurveBits': WHATEVER THE INPUT: true; the input reads as it did. -/
def curveBitsSpec : ChangeSpec := { name := "curveBits", fn := fun _ => fun
  | [d1, d2, d3] => { results := [.lit (.bool true)], args := [d1, d2, d3] }
  | _ => none }
def curveBitsRow : OpenClaim := { program := "ytdhoegkphhekfaadoor", sum := "3bbd832dfa6585eda904f4be8903db7392dbe378254daedfb3f798f6b33a5a71", func := "conclave/conclavekeep.CurveBits", spec := "curveBits", named := ["conclave/curve.curveFactor", "conclave/curve.modulus"], apart := false, laid := [("conclave/curve.curveFactor", laid_conclave_curve_curveFactor), ("conclave/curve.modulus", laid_conclave_curve_modulus)] }
def CurveBitsSaid : Prop := curveBitsRow.holds Tryd.pinned (OpenSpec.ofChange curveBitsSpec)

/-- ITS FALSE NEIGHBOUR: 'it returns false'. Refute it at one input. -/
def curveBitsWrong : ChangeSpec := { name := "curveBits", fn := fun _ => fun
  | [d1, d2, d3] => { results := [.lit (.bool false)], args := [d1, d2, d3] }
  | _ => none }
def CurveBitsWrongFalsely : Prop := curveBitsRow.holds Tryd.pinned (OpenSpec.ofChange curveBitsWrong)

/-- 'conclavekeep.CurveSmall': WHATEVER THE INPUT: true; the input reads as it did. -/
def curveSmallSpec : ChangeSpec := { name := "curveSmall", fn := fun _ => fun
  | [d] => { results := [.lit (.bool true)], args := [d] }
  | _ => none }
def curveSmallRow : OpenClaim := { program := "ytdhoegkphhekfaadoor", sum := "3bbd832dfa6585eda904f4be8903db7392dbe378254daedfb3f798f6b33a5a71", func := "conclave/conclavekeep.CurveSmall", spec := "curveSmall", named := ["conclave/curve.curveFactor", "conclave/curve.modulus"], apart := false, laid := [("conclave/curve.curveFactor", laid_conclave_curve_curveFactor), ("conclave/curve.modulus", laid_conclave_curve_modulus)] }
def CurveSmallSaid : Prop := curveSmallRow.holds Tryd.pinned (OpenSpec.ofChange curveSmallSpec)

/-- ITS FALSE NEIGHBOUR: 'it returns false'. Refute it at one input. -/
def curveSmallWrong : ChangeSpec := { name := "curveSmall", fn := fun _ => fun
  | [d] => { results := [.lit (.bool false)], args := [d] }
  | _ => none }
def CurveSmallWrongFalsely : Prop := curveSmallRow.holds Tryd.pinned (OpenSpec.ofChange curveSmallWrong)

/-- 'conclavekeep.CurveOver': WHATEVER THE INPUT: true; the input reads as it did. -/
def curveOverSpec : ChangeSpec := { name := "curveOver", fn := fun _ => fun
  | [d1, d2] => { results := [.lit (.bool true)], args := [d1, d2] }
  | _ => none }
def curveOverRow : OpenClaim := { program := "ytdhoegkphhekfaadoor", sum := "3bbd832dfa6585eda904f4be8903db7392dbe378254daedfb3f798f6b33a5a71", func := "conclave/conclavekeep.CurveOver", spec := "curveOver", named := ["conclave/curve.curveFactor", "conclave/curve.modulus"], apart := false, laid := [("conclave/curve.curveFactor", laid_conclave_curve_curveFactor), ("conclave/curve.modulus", laid_conclave_curve_modulus)] }
def CurveOverSaid : Prop := curveOverRow.holds Tryd.pinned (OpenSpec.ofChange curveOverSpec)

/-- ITS FALSE NEIGHBOUR: 'it returns false'. Refute it at one input. -/
def curveOverWrong : ChangeSpec := { name := "curveOver", fn := fun _ => fun
  | [d1, d2] => { results := [.lit (.bool false)], args := [d1, d2] }
  | _ => none }
def CurveOverWrongFalsely : Prop := curveOverRow.holds Tryd.pinned (OpenSpec.ofChange curveOverWrong)

/- THE SECOND FORM. 'bulk': how many values and letters a reading holds, each counted each time it is reached (what is shared counts as often as it is met; a slice's spare places count too). A statement '..UptoSaid' is the law's where the arguments, and the package variables that the reading takes, are together of bulk at most 1048576: NARROWER than '..Said'. Prove '..Said' where nothing that the law and all that it calls make is longer than what came in: it says more and counts as full. Else prove '..UptoSaid'. A law counts once. -/
mutual
def uptoBulk {H : Type} : DataW H → Nat
  | .lit (.string bytes) => bytes.length + 1
  | .lit _ => 1
  | .nil => 1
  | .ptr d => uptoBulk d + 1
  | .slice elems spare => uptoBulkAll elems + uptoBulkAll spare + 1
  | .agg parts => uptoBulkAll parts + 1
  | .iface _ d => uptoBulk d + 1
  | .map entries => uptoBulkEntries entries + 1
  | .held _ => 1
def uptoBulkAll {H : Type} : List (DataW H) → Nat
  | [] => 0
  | d :: r => uptoBulk d + uptoBulkAll r
def uptoBulkEntries {H : Type} : List (Lit × DataW H) → Nat
  | [] => 0
  | x :: r => uptoBulkEntry x + uptoBulkEntries r
def uptoBulkEntry {H : Type} : Lit × DataW H → Nat
  | (.string bytes, d) => bytes.length + uptoBulk d + 1
  | (_, d) => uptoBulk d + 1
 end
def uptoSmall : (H : Type) → List (DataW H) → Bool := fun _ ds => decide (uptoBulkAll ds ≤ 1048576)
def OpenSpec.upto (s : _root_.Go.ChangeSpec) : _root_.Go.OpenSpec := { _root_.Go.OpenSpec.ofChange s with cond := some uptoSmall }

/-- 'conclavelaw.CurveShareds', WHERE WHAT IT READS IS OF BULK AT MOST 1048576: true; the input reads as it did. -/
def curveSharedsUptoRow : OpenClaim := { program := "ytdhoegkphhekfaadoor", sum := "3bbd832dfa6585eda904f4be8903db7392dbe378254daedfb3f798f6b33a5a71", func := "conclave/conclavelaw.CurveShareds", spec := "curveShareds", named := ["conclave/curve.curveFactor", "conclave/curve.modulus"], apart := false, laid := [("conclave/curve.curveFactor", laid_conclave_curve_curveFactor), ("conclave/curve.modulus", laid_conclave_curve_modulus)], narrowed := true }
def CurveSharedsUptoSaid : Prop := curveSharedsUptoRow.holds Tryd.pinned (OpenSpec.upto curveSharedsSpec)

/-- 'conclavelaw.CurvePoints', WHERE WHAT IT READS IS OF BULK AT MOST 1048576: true; the input reads as it did. -/
def curvePointsUptoRow : OpenClaim := { program := "ytdhoegkphhekfaadoor", sum := "3bbd832dfa6585eda904f4be8903db7392dbe378254daedfb3f798f6b33a5a71", func := "conclave/conclavelaw.CurvePoints", spec := "curvePoints", named := ["conclave/curve.curveFactor", "conclave/curve.modulus"], apart := false, laid := [("conclave/curve.curveFactor", laid_conclave_curve_curveFactor), ("conclave/curve.modulus", laid_conclave_curve_modulus)], narrowed := true }
def CurvePointsUptoSaid : Prop := curvePointsUptoRow.holds Tryd.pinned (OpenSpec.upto curvePointsSpec)

/-- 'conclavekeep.CurveShare', WHERE WHAT IT READS IS OF BULK AT MOST 1048576: true; the input reads as it did. -/
def curveShareUptoRow : OpenClaim := { program := "ytdhoegkphhekfaadoor", sum := "3bbd832dfa6585eda904f4be8903db7392dbe378254daedfb3f798f6b33a5a71", func := "conclave/conclavekeep.CurveShare", spec := "curveShare", named := ["conclave/curve.curveFactor", "conclave/curve.modulus"], apart := false, laid := [("conclave/curve.curveFactor", laid_conclave_curve_curveFactor), ("conclave/curve.modulus", laid_conclave_curve_modulus)], narrowed := true }
def CurveShareUptoSaid : Prop := curveShareUptoRow.holds Tryd.pinned (OpenSpec.upto curveShareSpec)

/-- 'conclavekeep.CurveBits', WHERE WHAT IT READS IS OF BULK AT MOST 1048576: true; the input reads as it did. -/
def curveBitsUptoRow : OpenClaim := { program := "ytdhoegkphhekfaadoor", sum := "3bbd832dfa6585eda904f4be8903db7392dbe378254daedfb3f798f6b33a5a71", func := "conclave/conclavekeep.CurveBits", spec := "curveBits", named := ["conclave/curve.curveFactor", "conclave/curve.modulus"], apart := false, laid := [("conclave/curve.curveFactor", laid_conclave_curve_curveFactor), ("conclave/curve.modulus", laid_conclave_curve_modulus)], narrowed := true }
def CurveBitsUptoSaid : Prop := curveBitsUptoRow.holds Tryd.pinned (OpenSpec.upto curveBitsSpec)

/-- 'conclavekeep.CurveSmall', WHERE WHAT IT READS IS OF BULK AT MOST 1048576: true; the input reads as it did. -/
def curveSmallUptoRow : OpenClaim := { program := "ytdhoegkphhekfaadoor", sum := "3bbd832dfa6585eda904f4be8903db7392dbe378254daedfb3f798f6b33a5a71", func := "conclave/conclavekeep.CurveSmall", spec := "curveSmall", named := ["conclave/curve.curveFactor", "conclave/curve.modulus"], apart := false, laid := [("conclave/curve.curveFactor", laid_conclave_curve_curveFactor), ("conclave/curve.modulus", laid_conclave_curve_modulus)], narrowed := true }
def CurveSmallUptoSaid : Prop := curveSmallUptoRow.holds Tryd.pinned (OpenSpec.upto curveSmallSpec)

/-- 'conclavekeep.CurveOver', WHERE WHAT IT READS IS OF BULK AT MOST 1048576: true; the input reads as it did. -/
def curveOverUptoRow : OpenClaim := { program := "ytdhoegkphhekfaadoor", sum := "3bbd832dfa6585eda904f4be8903db7392dbe378254daedfb3f798f6b33a5a71", func := "conclave/conclavekeep.CurveOver", spec := "curveOver", named := ["conclave/curve.curveFactor", "conclave/curve.modulus"], apart := false, laid := [("conclave/curve.curveFactor", laid_conclave_curve_curveFactor), ("conclave/curve.modulus", laid_conclave_curve_modulus)], narrowed := true }
def CurveOverUptoSaid : Prop := curveOverUptoRow.holds Tryd.pinned (OpenSpec.upto curveOverSpec)

end Rows
end Go.Proofs.YtdhoegkphhekfaaDoor
