/-
  NARROWER THAN 'FOR EVERY INPUT', by the rows' own cells (each row's printed sentence says how): LineSends: laid · LineTakes: laid · LineBack: laid · LineOnce: laid.
  DERIVED. THE GIVEN ROWS OF THIS SEAT. 4 by the template 'for every input the law returns true; each argument reads behind the call as it read before'; 0 by the template 'total and deterministic' (their statements: YtpoaabjpeigooaaDoorTotals.lean).
  GIVEN WITH THE SEED: the statements are not yours to turn. If you find one false, say at which input.
  Laid BY PROGRAM, IN A SANDBOX (cutbox-rows.mjs): the forced cells as the released guide's own fill.sh prints them over the translation a34ac34728eb5c88… (all of the seat's roots in one cut). By AI agents, Wed Nov 11 2026. No macro, syntax, notation, axiom, sorry.
-/
import Derived.Test.YtpoaabjpeigooaaDoorChecked
import GoSem.Claim
import GoSem.ClaimJoined
import GoSem.ClaimMapViews
import Derived.JoinedTies
import Derived.KernelRfl
namespace Go.Proofs.YtpoaabjpeigooaaDoor
/- THE CELL 'sum', in the pinned program and in every row, IS THE sha256 OF THE DUMP (.gsa) THAT YtpoaabjpeigooaaDoorProg.lean LOADS. Nothing in Lean hashes anything: it is a label: what it is worth is what the hold of that sum in a sandbox is worth. -/
noncomputable def Tryd.pinned : Pinned := { name := "ytpoaabjpeigooaadoor", sum := "a34ac34728eb5c8802353686b45b5e92cb9f4260416cd348e3c43e21d4934797", checked := Tryd.checked }
namespace Rows
def none {H : Type} : Left H := { results := [], args := [] }

/- WHAT THE LISTED PACKAGE-LEVEL VARIABLES READ AS WHEN THE CALL BEGINS. Each datum BY PROGRAM (the guide's laid-datum.mjs) off the statement by which the dump's own 'gosem.cut.vars' lays the variable. In a bare row this is a premise. The card (YtpoaabjpeigooaaDoorCards.lean) ties it to the program's text. -/
def laid_conclave_cha_quarters {H : Type} : DataW H := .agg [.agg [.lit (.int .i64 0), .lit (.int .i64 4), .lit (.int .i64 8), .lit (.int .i64 12)], .agg [.lit (.int .i64 1), .lit (.int .i64 5), .lit (.int .i64 9), .lit (.int .i64 13)], .agg [.lit (.int .i64 2), .lit (.int .i64 6), .lit (.int .i64 10), .lit (.int .i64 14)], .agg [.lit (.int .i64 3), .lit (.int .i64 7), .lit (.int .i64 11), .lit (.int .i64 15)], .agg [.lit (.int .i64 0), .lit (.int .i64 5), .lit (.int .i64 10), .lit (.int .i64 15)], .agg [.lit (.int .i64 1), .lit (.int .i64 6), .lit (.int .i64 11), .lit (.int .i64 12)], .agg [.lit (.int .i64 2), .lit (.int .i64 7), .lit (.int .i64 8), .lit (.int .i64 13)], .agg [.lit (.int .i64 3), .lit (.int .i64 4), .lit (.int .i64 9), .lit (.int .i64 14)]]

/-- 'conclavelaw.LineSends': WHATEVER THE INPUT: true; the input reads as it did. -/
def lineSendsSpec : ChangeSpec := { name := "lineSends", fn := fun _ => fun
  | [d1, d2] => { results := [.lit (.bool true)], args := [d1, d2] }
  | _ => none }
def lineSendsRow : OpenClaim := { program := "ytpoaabjpeigooaadoor", sum := "a34ac34728eb5c8802353686b45b5e92cb9f4260416cd348e3c43e21d4934797", func := "conclave/conclavelaw.LineSends", spec := "lineSends", named := ["conclave/cha.quarters"], apart := false, laid := [("conclave/cha.quarters", laid_conclave_cha_quarters)] }
def LineSendsSaid : Prop := lineSendsRow.holds Tryd.pinned (OpenSpec.ofChange lineSendsSpec)

/-- ITS FALSE NEIGHBOUR: 'it returns false'. Refute it at one input. -/
def lineSendsWrong : ChangeSpec := { name := "lineSends", fn := fun _ => fun
  | [d1, d2] => { results := [.lit (.bool false)], args := [d1, d2] }
  | _ => none }
def LineSendsWrongFalsely : Prop := lineSendsRow.holds Tryd.pinned (OpenSpec.ofChange lineSendsWrong)

/-- 'conclavelaw.LineTakes': WHATEVER THE INPUT: true; the input reads as it did. -/
def lineTakesSpec : ChangeSpec := { name := "lineTakes", fn := fun _ => fun
  | [d1, d2] => { results := [.lit (.bool true)], args := [d1, d2] }
  | _ => none }
def lineTakesRow : OpenClaim := { program := "ytpoaabjpeigooaadoor", sum := "a34ac34728eb5c8802353686b45b5e92cb9f4260416cd348e3c43e21d4934797", func := "conclave/conclavelaw.LineTakes", spec := "lineTakes", named := ["conclave/cha.quarters"], apart := false, laid := [("conclave/cha.quarters", laid_conclave_cha_quarters)] }
def LineTakesSaid : Prop := lineTakesRow.holds Tryd.pinned (OpenSpec.ofChange lineTakesSpec)

/-- ITS FALSE NEIGHBOUR: 'it returns false'. Refute it at one input. -/
def lineTakesWrong : ChangeSpec := { name := "lineTakes", fn := fun _ => fun
  | [d1, d2] => { results := [.lit (.bool false)], args := [d1, d2] }
  | _ => none }
def LineTakesWrongFalsely : Prop := lineTakesRow.holds Tryd.pinned (OpenSpec.ofChange lineTakesWrong)

/-- 'conclavekeep.LineBack': WHATEVER THE INPUT: true; the input reads as it did. -/
def lineBackSpec : ChangeSpec := { name := "lineBack", fn := fun _ => fun
  | [d1, d2] => { results := [.lit (.bool true)], args := [d1, d2] }
  | _ => none }
def lineBackRow : OpenClaim := { program := "ytpoaabjpeigooaadoor", sum := "a34ac34728eb5c8802353686b45b5e92cb9f4260416cd348e3c43e21d4934797", func := "conclave/conclavekeep.LineBack", spec := "lineBack", named := ["conclave/cha.quarters"], apart := false, laid := [("conclave/cha.quarters", laid_conclave_cha_quarters)] }
def LineBackSaid : Prop := lineBackRow.holds Tryd.pinned (OpenSpec.ofChange lineBackSpec)

/-- ITS FALSE NEIGHBOUR: 'it returns false'. Refute it at one input. -/
def lineBackWrong : ChangeSpec := { name := "lineBack", fn := fun _ => fun
  | [d1, d2] => { results := [.lit (.bool false)], args := [d1, d2] }
  | _ => none }
def LineBackWrongFalsely : Prop := lineBackRow.holds Tryd.pinned (OpenSpec.ofChange lineBackWrong)

/-- 'conclavekeep.LineOnce': WHATEVER THE INPUT: true; the input reads as it did. -/
def lineOnceSpec : ChangeSpec := { name := "lineOnce", fn := fun _ => fun
  | [d1, d2, d3] => { results := [.lit (.bool true)], args := [d1, d2, d3] }
  | _ => none }
def lineOnceRow : OpenClaim := { program := "ytpoaabjpeigooaadoor", sum := "a34ac34728eb5c8802353686b45b5e92cb9f4260416cd348e3c43e21d4934797", func := "conclave/conclavekeep.LineOnce", spec := "lineOnce", named := ["conclave/cha.quarters"], apart := false, laid := [("conclave/cha.quarters", laid_conclave_cha_quarters)] }
def LineOnceSaid : Prop := lineOnceRow.holds Tryd.pinned (OpenSpec.ofChange lineOnceSpec)

/-- ITS FALSE NEIGHBOUR: 'it returns false'. Refute it at one input. -/
def lineOnceWrong : ChangeSpec := { name := "lineOnce", fn := fun _ => fun
  | [d1, d2, d3] => { results := [.lit (.bool false)], args := [d1, d2, d3] }
  | _ => none }
def LineOnceWrongFalsely : Prop := lineOnceRow.holds Tryd.pinned (OpenSpec.ofChange lineOnceWrong)

/- THE SECOND FORM. 'bulk': how many values and letters a reading holds, each counted each time it is reached (what is shared counts as often as it is met; a slice's spare places count too). A statement '..UptoSaid' is the law's where the arguments, and the package variables that the reading takes, are together of bulk at most 1048576: NARROWER than '..Said'. Prove '..Said' where nothing that the law and all that it calls make is longer than what came in: it says more and counts as full. Else prove '..UptoSaid'. A law counts once. -/
mutual
def uptoBulk {H : Type} : DataW H → Nat
  | .lit (.string bytes) => bytes.length + 1
  | .lit _ => 1
  | .nil => 1
  | .ptr d => uptoBulk d + 1
  | .slice elems spare => uptoBulkAll elems + uptoBulkAll spare + 1
  | .agg parts => uptoBulkAll parts + 1
  | .iface _ d => uptoBulk d + 1
  | .map entries => uptoBulkEntries entries + 1
  | .held _ => 1
def uptoBulkAll {H : Type} : List (DataW H) → Nat
  | [] => 0
  | d :: r => uptoBulk d + uptoBulkAll r
def uptoBulkEntries {H : Type} : List (Lit × DataW H) → Nat
  | [] => 0
  | x :: r => uptoBulkEntry x + uptoBulkEntries r
def uptoBulkEntry {H : Type} : Lit × DataW H → Nat
  | (.string bytes, d) => bytes.length + uptoBulk d + 1
  | (_, d) => uptoBulk d + 1
 end
def uptoSmall : (H : Type) → List (DataW H) → Bool := fun _ ds => decide (uptoBulkAll ds ≤ 1048576)
def OpenSpec.upto (s : _root_.Go.ChangeSpec) : _root_.Go.OpenSpec := { _root_.Go.OpenSpec.ofChange s with cond := some uptoSmall }

/-- 'conclavelaw.LineSends', WHERE WHAT IT READS IS OF BULK AT MOST 1048576: true; the input reads as it did. -/
def lineSendsUptoRow : OpenClaim := { program := "ytpoaabjpeigooaadoor", sum := "a34ac34728eb5c8802353686b45b5e92cb9f4260416cd348e3c43e21d4934797", func := "conclave/conclavelaw.LineSends", spec := "lineSends", named := ["conclave/cha.quarters"], apart := false, laid := [("conclave/cha.quarters", laid_conclave_cha_quarters)], narrowed := true }
def LineSendsUptoSaid : Prop := lineSendsUptoRow.holds Tryd.pinned (OpenSpec.upto lineSendsSpec)

/-- 'conclavelaw.LineTakes', WHERE WHAT IT READS IS OF BULK AT MOST 1048576: true; the input reads as it did. -/
def lineTakesUptoRow : OpenClaim := { program := "ytpoaabjpeigooaadoor", sum := "a34ac34728eb5c8802353686b45b5e92cb9f4260416cd348e3c43e21d4934797", func := "conclave/conclavelaw.LineTakes", spec := "lineTakes", named := ["conclave/cha.quarters"], apart := false, laid := [("conclave/cha.quarters", laid_conclave_cha_quarters)], narrowed := true }
def LineTakesUptoSaid : Prop := lineTakesUptoRow.holds Tryd.pinned (OpenSpec.upto lineTakesSpec)

/-- 'conclavekeep.LineBack', WHERE WHAT IT READS IS OF BULK AT MOST 1048576: true; the input reads as it did. -/
def lineBackUptoRow : OpenClaim := { program := "ytpoaabjpeigooaadoor", sum := "a34ac34728eb5c8802353686b45b5e92cb9f4260416cd348e3c43e21d4934797", func := "conclave/conclavekeep.LineBack", spec := "lineBack", named := ["conclave/cha.quarters"], apart := false, laid := [("conclave/cha.quarters", laid_conclave_cha_quarters)], narrowed := true }
def LineBackUptoSaid : Prop := lineBackUptoRow.holds Tryd.pinned (OpenSpec.upto lineBackSpec)

/-- 'conclavekeep.LineOnce', WHERE WHAT IT READS IS OF BULK AT MOST 1048576: true; the input reads as it did. -/
def lineOnceUptoRow : OpenClaim := { program := "ytpoaabjpeigooaadoor", sum := "a34ac34728eb5c8802353686b45b5e92cb9f4260416cd348e3c43e21d4934797", func := "conclave/conclavekeep.LineOnce", spec := "lineOnce", named := ["conclave/cha.quarters"], apart := false, laid := [("conclave/cha.quarters", laid_conclave_cha_quarters)], narrowed := true }
def LineOnceUptoSaid : Prop := lineOnceUptoRow.holds Tryd.pinned (OpenSpec.upto lineOnceSpec)

end Rows
end Go.Proofs.YtpoaabjpeigooaaDoor
