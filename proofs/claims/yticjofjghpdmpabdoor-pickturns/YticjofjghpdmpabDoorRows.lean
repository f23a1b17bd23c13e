/-
  NARROWER THAN 'FOR EVERY INPUT', by the rows' own cells (each row's printed sentence says how): PromiseHolds: laid · AcceptOne: laid · PickGreatest: laid · ChosenMost: laid · VoteAgain: laid · PickTurns: laid.
  DERIVED. THE GIVEN ROWS OF THIS SEAT. 6 by the template 'for every input the law returns true; each argument reads behind the call as it read before'; 0 by the template 'total and deterministic' (their statements: YticjofjghpdmpabDoorTotals.lean).
  GIVEN WITH THE SEED: the statements are not yours to turn. If you find one false, say at which input.
  Laid BY PROGRAM, IN A SANDBOX (cutbox-rows.mjs): the forced cells as the released guide's own fill.sh prints them over the translation 48b1601c78680a04… (all of the seat's roots in one cut). By AI agents, Wed Nov 11 2026. No macro, syntax, notation, axiom, sorry.
-/
import Derived.Test.YticjofjghpdmpabDoorChecked
import GoSem.Claim
import GoSem.ClaimJoined
import GoSem.ClaimMapViews
import Derived.JoinedTies
import Derived.KernelRfl
namespace Go.Proofs.YticjofjghpdmpabDoor
/- THE CELL 'sum', in the pinned program and in every row, IS THE sha256 OF THE DUMP (.gsa) THAT YticjofjghpdmpabDoorProg.lean LOADS. Nothing in Lean hashes anything: it is a label: what it is worth is what the hold of that sum in a sandbox is worth. -/
noncomputable def Tryd.pinned : Pinned := { name := "yticjofjghpdmpabdoor", sum := "48b1601c78680a044117f22b9bb8c70a0d08dd09efe1e84936dba8be2a8f8913", checked := Tryd.checked }
namespace Rows
def none {H : Type} : Left H := { results := [], args := [] }

/- WHAT THE LISTED PACKAGE-LEVEL VARIABLES READ AS WHEN THE CALL BEGINS. Each datum BY PROGRAM (the guide's laid-datum.mjs) off the statement by which the dump's own 'gosem.cut.vars' lays the variable. In a bare row this is a premise. The card (YticjofjghpdmpabDoorCards.lean) ties it to the program's text. -/
def laid_conclave_order_needs {H : Type} : DataW H := .agg [.agg [.lit (.int .i64 0), .lit (.int .i64 0), .lit (.int .i64 0)], .agg [.lit (.int .i64 2), .lit (.int .i64 7), .lit (.int .i64 1073741824)], .agg [.lit (.int .i64 1), .lit (.int .i64 7), .lit (.int .i64 0)], .agg [.lit (.int .i64 4), .lit (.int .i64 7), .lit (.int .i64 0)]]

/-- 'conclavekeep.PromiseHolds': WHATEVER THE INPUT: true; the input reads as it did. -/
def promiseHoldsSpec : ChangeSpec := { name := "promiseHolds", fn := fun _ => fun
  | [d1, d2, d3] => { results := [.lit (.bool true)], args := [d1, d2, d3] }
  | _ => none }
def promiseHoldsRow : OpenClaim := { program := "yticjofjghpdmpabdoor", sum := "48b1601c78680a044117f22b9bb8c70a0d08dd09efe1e84936dba8be2a8f8913", func := "conclave/conclavekeep.PromiseHolds", spec := "promiseHolds", unfollowed := true, recurses := true, named := ["conclave/order.needs"], plainKeys := false, apart := false, laid := [("conclave/order.needs", laid_conclave_order_needs)] }
def PromiseHoldsSaid : Prop := promiseHoldsRow.holds Tryd.pinned (OpenSpec.ofChange promiseHoldsSpec)

/-- ITS FALSE NEIGHBOUR: 'it returns false'. Refute it at one input. -/
def promiseHoldsWrong : ChangeSpec := { name := "promiseHolds", fn := fun _ => fun
  | [d1, d2, d3] => { results := [.lit (.bool false)], args := [d1, d2, d3] }
  | _ => none }
def PromiseHoldsWrongFalsely : Prop := promiseHoldsRow.holds Tryd.pinned (OpenSpec.ofChange promiseHoldsWrong)

/-- 'conclavekeep.AcceptOne': WHATEVER THE INPUT: true; the input reads as it did. -/
def acceptOneSpec : ChangeSpec := { name := "acceptOne", fn := fun _ => fun
  | [d1, d2, d3] => { results := [.lit (.bool true)], args := [d1, d2, d3] }
  | _ => none }
def acceptOneRow : OpenClaim := { program := "yticjofjghpdmpabdoor", sum := "48b1601c78680a044117f22b9bb8c70a0d08dd09efe1e84936dba8be2a8f8913", func := "conclave/conclavekeep.AcceptOne", spec := "acceptOne", unfollowed := true, recurses := true, named := ["conclave/order.needs"], plainKeys := false, apart := false, laid := [("conclave/order.needs", laid_conclave_order_needs)] }
def AcceptOneSaid : Prop := acceptOneRow.holds Tryd.pinned (OpenSpec.ofChange acceptOneSpec)

/-- ITS FALSE NEIGHBOUR: 'it returns false'. Refute it at one input. -/
def acceptOneWrong : ChangeSpec := { name := "acceptOne", fn := fun _ => fun
  | [d1, d2, d3] => { results := [.lit (.bool false)], args := [d1, d2, d3] }
  | _ => none }
def AcceptOneWrongFalsely : Prop := acceptOneRow.holds Tryd.pinned (OpenSpec.ofChange acceptOneWrong)

/-- 'conclavekeep.PickGreatest': WHATEVER THE INPUT: true; the input reads as it did. -/
def pickGreatestSpec : ChangeSpec := { name := "pickGreatest", fn := fun _ => fun
  | [d1, d2, d3] => { results := [.lit (.bool true)], args := [d1, d2, d3] }
  | _ => none }
def pickGreatestRow : OpenClaim := { program := "yticjofjghpdmpabdoor", sum := "48b1601c78680a044117f22b9bb8c70a0d08dd09efe1e84936dba8be2a8f8913", func := "conclave/conclavekeep.PickGreatest", spec := "pickGreatest", unfollowed := true, recurses := true, named := ["conclave/order.needs"], plainKeys := false, apart := false, laid := [("conclave/order.needs", laid_conclave_order_needs)] }
def PickGreatestSaid : Prop := pickGreatestRow.holds Tryd.pinned (OpenSpec.ofChange pickGreatestSpec)

/-- ITS FALSE NEIGHBOUR: 'it returns false'. Refute it at one input. -/
def pickGreatestWrong : ChangeSpec := { name := "pickGreatest", fn := fun _ => fun
  | [d1, d2, d3] => { results := [.lit (.bool false)], args := [d1, d2, d3] }
  | _ => none }
def PickGreatestWrongFalsely : Prop := pickGreatestRow.holds Tryd.pinned (OpenSpec.ofChange pickGreatestWrong)

/-- 'conclavekeep.ChosenMost': WHATEVER THE INPUT: true; the input reads as it did. -/
def chosenMostSpec : ChangeSpec := { name := "chosenMost", fn := fun _ => fun
  | [d1, d2, d3] => { results := [.lit (.bool true)], args := [d1, d2, d3] }
  | _ => none }
def chosenMostRow : OpenClaim := { program := "yticjofjghpdmpabdoor", sum := "48b1601c78680a044117f22b9bb8c70a0d08dd09efe1e84936dba8be2a8f8913", func := "conclave/conclavekeep.ChosenMost", spec := "chosenMost", unfollowed := true, recurses := true, named := ["conclave/order.needs"], plainKeys := false, apart := false, laid := [("conclave/order.needs", laid_conclave_order_needs)] }
def ChosenMostSaid : Prop := chosenMostRow.holds Tryd.pinned (OpenSpec.ofChange chosenMostSpec)

/-- ITS FALSE NEIGHBOUR: 'it returns false'. Refute it at one input. -/
def chosenMostWrong : ChangeSpec := { name := "chosenMost", fn := fun _ => fun
  | [d1, d2, d3] => { results := [.lit (.bool false)], args := [d1, d2, d3] }
  | _ => none }
def ChosenMostWrongFalsely : Prop := chosenMostRow.holds Tryd.pinned (OpenSpec.ofChange chosenMostWrong)

/-- 'conclavekeep.VoteAgain': WHATEVER THE INPUT: true; the input reads as it did. -/
def voteAgainSpec : ChangeSpec := { name := "voteAgain", fn := fun _ => fun
  | [d1, d2] => { results := [.lit (.bool true)], args := [d1, d2] }
  | _ => none }
def voteAgainRow : OpenClaim := { program := "yticjofjghpdmpabdoor", sum := "48b1601c78680a044117f22b9bb8c70a0d08dd09efe1e84936dba8be2a8f8913", func := "conclave/conclavekeep.VoteAgain", spec := "voteAgain", unfollowed := true, recurses := true, named := ["conclave/order.needs"], plainKeys := false, apart := false, laid := [("conclave/order.needs", laid_conclave_order_needs)] }
def VoteAgainSaid : Prop := voteAgainRow.holds Tryd.pinned (OpenSpec.ofChange voteAgainSpec)

/-- ITS FALSE NEIGHBOUR: 'it returns false'. Refute it at one input. -/
def voteAgainWrong : ChangeSpec := { name := "voteAgain", fn := fun _ => fun
  | [d1, d2] => { results := [.lit (.bool false)], args := [d1, d2] }
  | _ => none }
def VoteAgainWrongFalsely : Prop := voteAgainRow.holds Tryd.pinned (OpenSpec.ofChange voteAgainWrong)

/-- 'conclavekeep.PickTurns': WHATEVER THE INPUT: true; the input reads as it did. -/
def pickTurnsSpec : ChangeSpec := { name := "pickTurns", fn := fun _ => fun
  | [d1, d2] => { results := [.lit (.bool true)], args := [d1, d2] }
  | _ => none }
def pickTurnsRow : OpenClaim := { program := "yticjofjghpdmpabdoor", sum := "48b1601c78680a044117f22b9bb8c70a0d08dd09efe1e84936dba8be2a8f8913", func := "conclave/conclavekeep.PickTurns", spec := "pickTurns", named := ["conclave/order.needs"], plainKeys := false, apart := false, laid := [("conclave/order.needs", laid_conclave_order_needs)] }
def PickTurnsSaid : Prop := pickTurnsRow.holds Tryd.pinned (OpenSpec.ofChange pickTurnsSpec)

/-- ITS FALSE NEIGHBOUR: 'it returns false'. Refute it at one input. -/
def pickTurnsWrong : ChangeSpec := { name := "pickTurns", fn := fun _ => fun
  | [d1, d2] => { results := [.lit (.bool false)], args := [d1, d2] }
  | _ => none }
def PickTurnsWrongFalsely : Prop := pickTurnsRow.holds Tryd.pinned (OpenSpec.ofChange pickTurnsWrong)

/- THE SECOND FORM. 'bulk': how many values and letters a reading holds, each counted each time it is reached (what is shared counts as often as it is met; a slice's spare places count too). A statement '..UptoSaid' is the law's where the arguments, and the package variables that the reading takes, are together of bulk at most 1048576: NARROWER than '..Said'. Prove '..Said' where nothing that the law and all that it calls make is longer than what came in: it says more and counts as full. Else prove '..UptoSaid'. A law counts once. -/
mutual
def uptoBulk {H : Type} : DataW H → Nat
  | .lit (.string bytes) => bytes.length + 1
  | .lit _ => 1
  | .nil => 1
  | .ptr d => uptoBulk d + 1
  | .slice elems spare => uptoBulkAll elems + uptoBulkAll spare + 1
  | .agg parts => uptoBulkAll parts + 1
  | .iface _ d => uptoBulk d + 1
  | .map entries => uptoBulkEntries entries + 1
  | .held _ => 1
def uptoBulkAll {H : Type} : List (DataW H) → Nat
  | [] => 0
  | d :: r => uptoBulk d + uptoBulkAll r
def uptoBulkEntries {H : Type} : List (Lit × DataW H) → Nat
  | [] => 0
  | x :: r => uptoBulkEntry x + uptoBulkEntries r
def uptoBulkEntry {H : Type} : Lit × DataW H → Nat
  | (.string bytes, d) => bytes.length + uptoBulk d + 1
  | (_, d) => uptoBulk d + 1
 end
def uptoSmall : (H : Type) → List (DataW H) → Bool := fun _ ds => decide (uptoBulkAll ds ≤ 1048576)
def OpenSpec.upto (s : _root_.Go.ChangeSpec) : _root_.Go.OpenSpec := { _root_.Go.OpenSpec.ofChange s with cond := some uptoSmall }

/-- 'conclavekeep.PromiseHolds', WHERE WHAT IT READS IS OF BULK AT MOST 1048576: true; the input reads as it did. -/
def promiseHoldsUptoRow : OpenClaim := { program := "yticjofjghpdmpabdoor", sum := "48b1601c78680a044117f22b9bb8c70a0d08dd09efe1e84936dba8be2a8f8913", func := "conclave/conclavekeep.PromiseHolds", spec := "promiseHolds", unfollowed := true, recurses := true, named := ["conclave/order.needs"], plainKeys := false, apart := false, laid := [("conclave/order.needs", laid_conclave_order_needs)], narrowed := true }
def PromiseHoldsUptoSaid : Prop := promiseHoldsUptoRow.holds Tryd.pinned (OpenSpec.upto promiseHoldsSpec)

/-- 'conclavekeep.AcceptOne', WHERE WHAT IT READS IS OF BULK AT MOST 1048576: true; the input reads as it did. -/
def acceptOneUptoRow : OpenClaim := { program := "yticjofjghpdmpabdoor", sum := "48b1601c78680a044117f22b9bb8c70a0d08dd09efe1e84936dba8be2a8f8913", func := "conclave/conclavekeep.AcceptOne", spec := "acceptOne", unfollowed := true, recurses := true, named := ["conclave/order.needs"], plainKeys := false, apart := false, laid := [("conclave/order.needs", laid_conclave_order_needs)], narrowed := true }
def AcceptOneUptoSaid : Prop := acceptOneUptoRow.holds Tryd.pinned (OpenSpec.upto acceptOneSpec)

/-- 'conclavekeep.PickGreatest', WHERE WHAT IT READS IS OF BULK AT MOST 1048576: true; the input reads as it did. -/
def pickGreatestUptoRow : OpenClaim := { program := "yticjofjghpdmpabdoor", sum := "48b1601c78680a044117f22b9bb8c70a0d08dd09efe1e84936dba8be2a8f8913", func := "conclave/conclavekeep.PickGreatest", spec := "pickGreatest", unfollowed := true, recurses := true, named := ["conclave/order.needs"], plainKeys := false, apart := false, laid := [("conclave/order.needs", laid_conclave_order_needs)], narrowed := true }
def PickGreatestUptoSaid : Prop := pickGreatestUptoRow.holds Tryd.pinned (OpenSpec.upto pickGreatestSpec)

/-- 'conclavekeep.ChosenMost', WHERE WHAT IT READS IS OF BULK AT MOST 1048576: true; the input reads as it did. -/
def chosenMostUptoRow : OpenClaim := { program := "yticjofjghpdmpabdoor", sum := "48b1601c78680a044117f22b9bb8c70a0d08dd09efe1e84936dba8be2a8f8913", func := "conclave/conclavekeep.ChosenMost", spec := "chosenMost", unfollowed := true, recurses := true, named := ["conclave/order.needs"], plainKeys := false, apart := false, laid := [("conclave/order.needs", laid_conclave_order_needs)], narrowed := true }
def ChosenMostUptoSaid : Prop := chosenMostUptoRow.holds Tryd.pinned (OpenSpec.upto chosenMostSpec)

/-- 'conclavekeep.VoteAgain', WHERE WHAT IT READS IS OF BULK AT MOST 1048576: true; the input reads as it did. -/
def voteAgainUptoRow : OpenClaim := { program := "yticjofjghpdmpabdoor", sum := "48b1601c78680a044117f22b9bb8c70a0d08dd09efe1e84936dba8be2a8f8913", func := "conclave/conclavekeep.VoteAgain", spec := "voteAgain", unfollowed := true, recurses := true, named := ["conclave/order.needs"], plainKeys := false, apart := false, laid := [("conclave/order.needs", laid_conclave_order_needs)], narrowed := true }
def VoteAgainUptoSaid : Prop := voteAgainUptoRow.holds Tryd.pinned (OpenSpec.upto voteAgainSpec)

/-- 'conclavekeep.PickTurns', WHERE WHAT IT READS IS OF BULK AT MOST 1048576: true; the input reads as it did. -/
def pickTurnsUptoRow : OpenClaim := { program := "yticjofjghpdmpabdoor", sum := "48b1601c78680a044117f22b9bb8c70a0d08dd09efe1e84936dba8be2a8f8913", func := "conclave/conclavekeep.PickTurns", spec := "pickTurns", named := ["conclave/order.needs"], plainKeys := false, apart := false, laid := [("conclave/order.needs", laid_conclave_order_needs)], narrowed := true }
def PickTurnsUptoSaid : Prop := pickTurnsUptoRow.holds Tryd.pinned (OpenSpec.upto pickTurnsSpec)

end Rows
end Go.Proofs.YticjofjghpdmpabDoor
