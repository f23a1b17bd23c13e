/-
  NARROWER THAN 'FOR EVERY INPUT', by the rows' own cells (each row's printed sentence says how): PaxosChecks: laid · PaxosPromises: laid · PaxosAccepts: laid · PaxosPicks: laid · PaxosChosens: laid · PaxosOne: laid.
  DERIVED. THE GIVEN ROWS OF THIS SEAT. 6 by the template 'for every input the law returns true; each argument reads behind the call as it read before'; 0 by the template 'total and deterministic' (their statements: YticjofjghpdmpaaDoorTotals.lean).
  GIVEN WITH THE SEED: the statements are not yours to turn. If you find one false, say at which input.
  Laid BY PROGRAM, IN A SANDBOX (cutbox-rows.mjs): the forced cells as the released guide's own fill.sh prints them over the translation 252c9f7c0255239b… (all of the seat's roots in one cut). By AI agents, Wed Nov 11 2026. No macro, syntax, notation, axiom, sorry.
-/
import Derived.Test.YticjofjghpdmpaaDoorChecked
import GoSem.Claim
import GoSem.ClaimJoined
import GoSem.ClaimMapViews
import Derived.JoinedTies
import Derived.KernelRfl
namespace Go.Proofs.YticjofjghpdmpaaDoor
/- THE CELL 'sum', in the pinned program and in every row, IS THE sha256 OF THE DUMP (.gsa) THAT YticjofjghpdmpaaDoorProg.lean LOADS. Nothing in Lean hashes anything: it is a label: what it is worth is what the hold of that sum in a sandbox is worth. -/
noncomputable def Tryd.pinned : Pinned := { name := "yticjofjghpdmpaadoor", sum := "252c9f7c0255239bc3be4f91e53084d412655c5bf5d788d6a78cf657656ed11a", checked := Tryd.checked }
namespace Rows
def none {H : Type} : Left H := { results := [], args := [] }

/- WHAT THE LISTED PACKAGE-LEVEL VARIABLES READ AS WHEN THE CALL BEGINS. Each datum BY PROGRAM (the guide's laid-datum.mjs) off the statement by which the dump's own 'gosem.cut.vars' lays the variable. In a bare row this is a premise. The card (YticjofjghpdmpaaDoorCards.lean) ties it to the program's text. -/
def laid_conclave_order_needs {H : Type} : DataW H := .agg [.agg [.lit (.int .i64 0), .lit (.int .i64 0), .lit (.int .i64 0)], .agg [.lit (.int .i64 2), .lit (.int .i64 7), .lit (.int .i64 1073741824)], .agg [.lit (.int .i64 1), .lit (.int .i64 7), .lit (.int .i64 0)], .agg [.lit (.int .i64 4), .lit (.int .i64 7), .lit (.int .i64 0)]]

/-- 'conclavelaw.PaxosChecks': WHATEVER THE INPUT: true; the input reads as it did. -/
def paxosChecksSpec : ChangeSpec := { name := "paxosChecks", fn := fun _ => fun
  | [d] => { results := [.lit (.bool true)], args := [d] }
  | _ => none }
def paxosChecksRow : OpenClaim := { program := "yticjofjghpdmpaadoor", sum := "252c9f7c0255239bc3be4f91e53084d412655c5bf5d788d6a78cf657656ed11a", func := "conclave/conclavelaw.PaxosChecks", spec := "paxosChecks", named := ["conclave/order.needs"], plainKeys := false, apart := false, laid := [("conclave/order.needs", laid_conclave_order_needs)] }
def PaxosChecksSaid : Prop := paxosChecksRow.holds Tryd.pinned (OpenSpec.ofChange paxosChecksSpec)

/-- ITS FALSE NEIGHBOUR: 'it returns false'. Refute it at one input. -/
def paxosChecksWrong : ChangeSpec := { name := "paxosChecks", fn := fun _ => fun
  | [d] => { results := [.lit (.bool false)], args := [d] }
  | _ => none }
def PaxosChecksWrongFalsely : Prop := paxosChecksRow.holds Tryd.pinned (OpenSpec.ofChange paxosChecksWrong)

/-- 'conclavelaw.PaxosPromises': WHATEVER THE INPUT: true; the input reads as it did. -/
def paxosPromisesSpec : ChangeSpec := { name := "paxosPromises", fn := fun _ => fun
  | [d1, d2] => { results := [.lit (.bool true)], args := [d1, d2] }
  | _ => none }
def paxosPromisesRow : OpenClaim := { program := "yticjofjghpdmpaadoor", sum := "252c9f7c0255239bc3be4f91e53084d412655c5bf5d788d6a78cf657656ed11a", func := "conclave/conclavelaw.PaxosPromises", spec := "paxosPromises", named := ["conclave/order.needs"], plainKeys := false, apart := false, laid := [("conclave/order.needs", laid_conclave_order_needs)] }
def PaxosPromisesSaid : Prop := paxosPromisesRow.holds Tryd.pinned (OpenSpec.ofChange paxosPromisesSpec)

/-- ITS FALSE NEIGHBOUR: 'it returns false'. Refute it at one input. -/
def paxosPromisesWrong : ChangeSpec := { name := "paxosPromises", fn := fun _ => fun
  | [d1, d2] => { results := [.lit (.bool false)], args := [d1, d2] }
  | _ => none }
def PaxosPromisesWrongFalsely : Prop := paxosPromisesRow.holds Tryd.pinned (OpenSpec.ofChange paxosPromisesWrong)

/-- 'conclavelaw.PaxosAccepts': WHATEVER THE INPUT: true; the input reads as it did. -/
def paxosAcceptsSpec : ChangeSpec := { name := "paxosAccepts", fn := fun _ => fun
  | [d1, d2] => { results := [.lit (.bool true)], args := [d1, d2] }
  | _ => none }
def paxosAcceptsRow : OpenClaim := { program := "yticjofjghpdmpaadoor", sum := "252c9f7c0255239bc3be4f91e53084d412655c5bf5d788d6a78cf657656ed11a", func := "conclave/conclavelaw.PaxosAccepts", spec := "paxosAccepts", unfollowed := true, recurses := true, named := ["conclave/order.needs"], plainKeys := false, apart := false, laid := [("conclave/order.needs", laid_conclave_order_needs)] }
def PaxosAcceptsSaid : Prop := paxosAcceptsRow.holds Tryd.pinned (OpenSpec.ofChange paxosAcceptsSpec)

/-- ITS FALSE NEIGHBOUR: 'it returns false'. Refute it at one input. -/
def paxosAcceptsWrong : ChangeSpec := { name := "paxosAccepts", fn := fun _ => fun
  | [d1, d2] => { results := [.lit (.bool false)], args := [d1, d2] }
  | _ => none }
def PaxosAcceptsWrongFalsely : Prop := paxosAcceptsRow.holds Tryd.pinned (OpenSpec.ofChange paxosAcceptsWrong)

/-- 'conclavelaw.PaxosPicks': WHATEVER THE INPUT: true; the input reads as it did. -/
def paxosPicksSpec : ChangeSpec := { name := "paxosPicks", fn := fun _ => fun
  | [d1, d2] => { results := [.lit (.bool true)], args := [d1, d2] }
  | _ => none }
def paxosPicksRow : OpenClaim := { program := "yticjofjghpdmpaadoor", sum := "252c9f7c0255239bc3be4f91e53084d412655c5bf5d788d6a78cf657656ed11a", func := "conclave/conclavelaw.PaxosPicks", spec := "paxosPicks", named := ["conclave/order.needs"], plainKeys := false, apart := false, laid := [("conclave/order.needs", laid_conclave_order_needs)] }
def PaxosPicksSaid : Prop := paxosPicksRow.holds Tryd.pinned (OpenSpec.ofChange paxosPicksSpec)

/-- ITS FALSE NEIGHBOUR: 'it returns false'. Refute it at one input. -/
def paxosPicksWrong : ChangeSpec := { name := "paxosPicks", fn := fun _ => fun
  | [d1, d2] => { results := [.lit (.bool false)], args := [d1, d2] }
  | _ => none }
def PaxosPicksWrongFalsely : Prop := paxosPicksRow.holds Tryd.pinned (OpenSpec.ofChange paxosPicksWrong)

/-- 'conclavelaw.PaxosChosens': WHATEVER THE INPUT: true; the input reads as it did. -/
def paxosChosensSpec : ChangeSpec := { name := "paxosChosens", fn := fun _ => fun
  | [d1, d2] => { results := [.lit (.bool true)], args := [d1, d2] }
  | _ => none }
def paxosChosensRow : OpenClaim := { program := "yticjofjghpdmpaadoor", sum := "252c9f7c0255239bc3be4f91e53084d412655c5bf5d788d6a78cf657656ed11a", func := "conclave/conclavelaw.PaxosChosens", spec := "paxosChosens", unfollowed := true, recurses := true, named := ["conclave/order.needs"], plainKeys := false, apart := false, laid := [("conclave/order.needs", laid_conclave_order_needs)] }
def PaxosChosensSaid : Prop := paxosChosensRow.holds Tryd.pinned (OpenSpec.ofChange paxosChosensSpec)

/-- ITS FALSE NEIGHBOUR: 'it returns false'. Refute it at one input. -/
def paxosChosensWrong : ChangeSpec := { name := "paxosChosens", fn := fun _ => fun
  | [d1, d2] => { results := [.lit (.bool false)], args := [d1, d2] }
  | _ => none }
def PaxosChosensWrongFalsely : Prop := paxosChosensRow.holds Tryd.pinned (OpenSpec.ofChange paxosChosensWrong)

/-- 'conclavekeep.PaxosOne': WHATEVER THE INPUT: true; the input reads as it did. -/
def paxosOneSpec : ChangeSpec := { name := "paxosOne", fn := fun _ => fun
  | [d] => { results := [.lit (.bool true)], args := [d] }
  | _ => none }
def paxosOneRow : OpenClaim := { program := "yticjofjghpdmpaadoor", sum := "252c9f7c0255239bc3be4f91e53084d412655c5bf5d788d6a78cf657656ed11a", func := "conclave/conclavekeep.PaxosOne", spec := "paxosOne", unfollowed := true, recurses := true, named := ["conclave/order.needs"], plainKeys := false, apart := false, laid := [("conclave/order.needs", laid_conclave_order_needs)] }
def PaxosOneSaid : Prop := paxosOneRow.holds Tryd.pinned (OpenSpec.ofChange paxosOneSpec)

/-- ITS FALSE NEIGHBOUR: 'it returns false'. Refute it at one input. -/
def paxosOneWrong : ChangeSpec := { name := "paxosOne", fn := fun _ => fun
  | [d] => { results := [.lit (.bool false)], args := [d] }
  | _ => none }
def PaxosOneWrongFalsely : Prop := paxosOneRow.holds Tryd.pinned (OpenSpec.ofChange paxosOneWrong)

/- THE SECOND FORM. 'bulk': how many values and letters a reading holds, each counted each time it is reached (what is shared counts as often as it is met; a slice's spare places count too). A statement '..UptoSaid' is the law's where the arguments, and the package variables that the reading takes, are together of bulk at most 1048576: NARROWER than '..Said'. Prove '..Said' where nothing that the law and all that it calls make is longer than what came in: it says more and counts as full. Else prove '..UptoSaid'. A law counts once. -/
mutual
def uptoBulk {H : Type} : DataW H → Nat
  | .lit (.string bytes) => bytes.length + 1
  | .lit _ => 1
  | .nil => 1
  | .ptr d => uptoBulk d + 1
  | .slice elems spare => uptoBulkAll elems + uptoBulkAll spare + 1
  | .agg parts => uptoBulkAll parts + 1
  | .iface _ d => uptoBulk d + 1
  | .map entries => uptoBulkEntries entries + 1
  | .held _ => 1
def uptoBulkAll {H : Type} : List (DataW H) → Nat
  | [] => 0
  | d :: r => uptoBulk d + uptoBulkAll r
def uptoBulkEntries {H : Type} : List (Lit × DataW H) → Nat
  | [] => 0
  | x :: r => uptoBulkEntry x + uptoBulkEntries r
def uptoBulkEntry {H : Type} : Lit × DataW H → Nat
  | (.string bytes, d) => bytes.length + uptoBulk d + 1
  | (_, d) => uptoBulk d + 1
 end
def uptoSmall : (H : Type) → List (DataW H) → Bool := fun _ ds => decide (uptoBulkAll ds ≤ 1048576)
def OpenSpec.upto (s : _root_.Go.ChangeSpec) : _root_.Go.OpenSpec := { _root_.Go.OpenSpec.ofChange s with cond := some uptoSmall }

/-- 'conclavelaw.PaxosChecks', WHERE WHAT IT READS IS OF BULK AT MOST 1048576: true; the input reads as it did. -/
def paxosChecksUptoRow : OpenClaim := { program := "yticjofjghpdmpaadoor", sum := "252c9f7c0255239bc3be4f91e53084d412655c5bf5d788d6a78cf657656ed11a", func := "conclave/conclavelaw.PaxosChecks", spec := "paxosChecks", named := ["conclave/order.needs"], plainKeys := false, apart := false, laid := [("conclave/order.needs", laid_conclave_order_needs)], narrowed := true }
def PaxosChecksUptoSaid : Prop := paxosChecksUptoRow.holds Tryd.pinned (OpenSpec.upto paxosChecksSpec)

/-- 'conclavelaw.PaxosPromises', WHERE WHAT IT READS IS OF BULK AT MOST 1048576: true; the input reads as it did. -/
def paxosPromisesUptoRow : OpenClaim := { program := "yticjofjghpdmpaadoor", sum := "252c9f7c0255239bc3be4f91e53084d412655c5bf5d788d6a78cf657656ed11a", func := "conclave/conclavelaw.PaxosPromises", spec := "paxosPromises", named := ["conclave/order.needs"], plainKeys := false, apart := false, laid := [("conclave/order.needs", laid_conclave_order_needs)], narrowed := true }
def PaxosPromisesUptoSaid : Prop := paxosPromisesUptoRow.holds Tryd.pinned (OpenSpec.upto paxosPromisesSpec)

/-- 'conclavelaw.PaxosAccepts', WHERE WHAT IT READS IS OF BULK AT MOST 1048576: true; the input reads as it did. -/
def paxosAcceptsUptoRow : OpenClaim := { program := "yticjofjghpdmpaadoor", sum := "252c9f7c0255239bc3be4f91e53084d412655c5bf5d788d6a78cf657656ed11a", func := "conclave/conclavelaw.PaxosAccepts", spec := "paxosAccepts", unfollowed := true, recurses := true, named := ["conclave/order.needs"], plainKeys := false, apart := false, laid := [("conclave/order.needs", laid_conclave_order_needs)], narrowed := true }
def PaxosAcceptsUptoSaid : Prop := paxosAcceptsUptoRow.holds Tryd.pinned (OpenSpec.upto paxosAcceptsSpec)

/-- 'conclavelaw.PaxosPicks', WHERE WHAT IT READS IS OF BULK AT MOST 1048576: true; the input reads as it did. -/
def paxosPicksUptoRow : OpenClaim := { program := "yticjofjghpdmpaadoor", sum := "252c9f7c0255239bc3be4f91e53084d412655c5bf5d788d6a78cf657656ed11a", func := "conclave/conclavelaw.PaxosPicks", spec := "paxosPicks", named := ["conclave/order.needs"], plainKeys := false, apart := false, laid := [("conclave/order.needs", laid_conclave_order_needs)], narrowed := true }
def PaxosPicksUptoSaid : Prop := paxosPicksUptoRow.holds Tryd.pinned (OpenSpec.upto paxosPicksSpec)

/-- 'conclavelaw.PaxosChosens', WHERE WHAT IT READS IS OF BULK AT MOST 1048576: true; the input reads as it did. -/
def paxosChosensUptoRow : OpenClaim := { program := "yticjofjghpdmpaadoor", sum := "252c9f7c0255239bc3be4f91e53084d412655c5bf5d788d6a78cf657656ed11a", func := "conclave/conclavelaw.PaxosChosens", spec := "paxosChosens", unfollowed := true, recurses := true, named := ["conclave/order.needs"], plainKeys := false, apart := false, laid := [("conclave/order.needs", laid_conclave_order_needs)], narrowed := true }
def PaxosChosensUptoSaid : Prop := paxosChosensUptoRow.holds Tryd.pinned (OpenSpec.upto paxosChosensSpec)

/-- 'conclavekeep.PaxosOne', WHERE WHAT IT READS IS OF BULK AT MOST 1048576: true; the input reads as it did. -/
def paxosOneUptoRow : OpenClaim := { program := "yticjofjghpdmpaadoor", sum := "252c9f7c0255239bc3be4f91e53084d412655c5bf5d788d6a78cf657656ed11a", func := "conclave/conclavekeep.PaxosOne", spec := "paxosOne", unfollowed := true, recurses := true, named := ["conclave/order.needs"], plainKeys := false, apart := false, laid := [("conclave/order.needs", laid_conclave_order_needs)], narrowed := true }
def PaxosOneUptoSaid : Prop := paxosOneUptoRow.holds Tryd.pinned (OpenSpec.upto paxosOneSpec)

end Rows
end Go.Proofs.YticjofjghpdmpaaDoor
