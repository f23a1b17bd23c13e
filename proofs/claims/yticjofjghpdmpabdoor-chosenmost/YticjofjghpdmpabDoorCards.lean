/-
  DERIVED. GIVEN WITH THE SEED: THE CARDS: each row of YticjofjghpdmpabDoorRows.lean that lists a variable, with what it lists TIED to the program's text (the seventh form; the later family's looks); each row that meets fmt, with fmt's text TOLD by the authors' own Lean function (tested against real Go, not proved from fmt's source: count such statements apart). THE CARD IS WHAT COUNTS. Prove the row's statement (the work); the ties are given (YticjofjghpdmpabDoorTie.lean); close each card by the builder's one call (the guide's Derived/Test/ToyasCard.lean, 'card_holds'). Laid BY PROGRAM, IN A SANDBOX (cutbox-door.mjs). By AI agents, Wed Nov 11 2026. No macro, syntax, notation, axiom, sorry.
-/
import Derived.Test.YticjofjghpdmpabDoorRows
import GoSem.ClaimSeven
namespace Go.Proofs.YticjofjghpdmpabDoor
namespace Rows

/-- THE TIED CARD OF 'conclavekeep.PromiseHolds'. -/
def promiseHoldsCard : Claim7 := { stood := { row := promiseHoldsRow, standIns := [], harness := (true, "5d10170c6323c12972cf345de4996e1a02c9b57d75735375a50779d760897e80"), looks := false }, kinds := [], alts := [], laidByText := true, laidKinds := [.data], laidTests := true, laidLooks := .later }
def PromiseHoldsCardSaid : Prop := Claim7.holds Tryd.pinned (.plain (OpenSpec.ofChange promiseHoldsSpec)) promiseHoldsCard

/-- THE TIED CARD OF 'conclavekeep.AcceptOne'. -/
def acceptOneCard : Claim7 := { stood := { row := acceptOneRow, standIns := [], harness := (true, "5d10170c6323c12972cf345de4996e1a02c9b57d75735375a50779d760897e80"), looks := false }, kinds := [], alts := [], laidByText := true, laidKinds := [.data], laidTests := true, laidLooks := .later }
def AcceptOneCardSaid : Prop := Claim7.holds Tryd.pinned (.plain (OpenSpec.ofChange acceptOneSpec)) acceptOneCard

/-- THE TIED CARD OF 'conclavekeep.PickGreatest'. -/
def pickGreatestCard : Claim7 := { stood := { row := pickGreatestRow, standIns := [], harness := (true, "5d10170c6323c12972cf345de4996e1a02c9b57d75735375a50779d760897e80"), looks := false }, kinds := [], alts := [], laidByText := true, laidKinds := [.data], laidTests := true, laidLooks := .later }
def PickGreatestCardSaid : Prop := Claim7.holds Tryd.pinned (.plain (OpenSpec.ofChange pickGreatestSpec)) pickGreatestCard

/-- THE TIED CARD OF 'conclavekeep.ChosenMost'. -/
def chosenMostCard : Claim7 := { stood := { row := chosenMostRow, standIns := [], harness := (true, "5d10170c6323c12972cf345de4996e1a02c9b57d75735375a50779d760897e80"), looks := false }, kinds := [], alts := [], laidByText := true, laidKinds := [.data], laidTests := true, laidLooks := .later }
def ChosenMostCardSaid : Prop := Claim7.holds Tryd.pinned (.plain (OpenSpec.ofChange chosenMostSpec)) chosenMostCard

/-- THE TIED CARD OF 'conclavekeep.VoteAgain'. -/
def voteAgainCard : Claim7 := { stood := { row := voteAgainRow, standIns := [], harness := (true, "5d10170c6323c12972cf345de4996e1a02c9b57d75735375a50779d760897e80"), looks := false }, kinds := [], alts := [], laidByText := true, laidKinds := [.data], laidTests := true, laidLooks := .later }
def VoteAgainCardSaid : Prop := Claim7.holds Tryd.pinned (.plain (OpenSpec.ofChange voteAgainSpec)) voteAgainCard

/-- THE TIED CARD OF 'conclavekeep.PickTurns'. -/
def pickTurnsCard : Claim7 := { stood := { row := pickTurnsRow, standIns := [], harness := (true, "5d10170c6323c12972cf345de4996e1a02c9b57d75735375a50779d760897e80"), looks := false }, kinds := [], alts := [], laidByText := true, laidKinds := [.data], laidTests := true, laidLooks := .later }
def PickTurnsCardSaid : Prop := Claim7.holds Tryd.pinned (.plain (OpenSpec.ofChange pickTurnsSpec)) pickTurnsCard

/-- THE SECOND FORM's CARD OF 'conclavekeep.PromiseHolds'. -/
def promiseHoldsUptoCard : Claim7 := { stood := { row := promiseHoldsUptoRow, standIns := [], harness := (true, "5d10170c6323c12972cf345de4996e1a02c9b57d75735375a50779d760897e80"), looks := false }, kinds := [], alts := [], laidByText := true, laidKinds := [.data], laidTests := true, laidLooks := .later }
def PromiseHoldsUptoCardSaid : Prop := Claim7.holds Tryd.pinned (.plain (OpenSpec.upto promiseHoldsSpec)) promiseHoldsUptoCard

/-- THE SECOND FORM's CARD OF 'conclavekeep.AcceptOne'. -/
def acceptOneUptoCard : Claim7 := { stood := { row := acceptOneUptoRow, standIns := [], harness := (true, "5d10170c6323c12972cf345de4996e1a02c9b57d75735375a50779d760897e80"), looks := false }, kinds := [], alts := [], laidByText := true, laidKinds := [.data], laidTests := true, laidLooks := .later }
def AcceptOneUptoCardSaid : Prop := Claim7.holds Tryd.pinned (.plain (OpenSpec.upto acceptOneSpec)) acceptOneUptoCard

/-- THE SECOND FORM's CARD OF 'conclavekeep.PickGreatest'. -/
def pickGreatestUptoCard : Claim7 := { stood := { row := pickGreatestUptoRow, standIns := [], harness := (true, "5d10170c6323c12972cf345de4996e1a02c9b57d75735375a50779d760897e80"), looks := false }, kinds := [], alts := [], laidByText := true, laidKinds := [.data], laidTests := true, laidLooks := .later }
def PickGreatestUptoCardSaid : Prop := Claim7.holds Tryd.pinned (.plain (OpenSpec.upto pickGreatestSpec)) pickGreatestUptoCard

/-- THE SECOND FORM's CARD OF 'conclavekeep.ChosenMost'. -/
def chosenMostUptoCard : Claim7 := { stood := { row := chosenMostUptoRow, standIns := [], harness := (true, "5d10170c6323c12972cf345de4996e1a02c9b57d75735375a50779d760897e80"), looks := false }, kinds := [], alts := [], laidByText := true, laidKinds := [.data], laidTests := true, laidLooks := .later }
def ChosenMostUptoCardSaid : Prop := Claim7.holds Tryd.pinned (.plain (OpenSpec.upto chosenMostSpec)) chosenMostUptoCard

/-- THE SECOND FORM's CARD OF 'conclavekeep.VoteAgain'. -/
def voteAgainUptoCard : Claim7 := { stood := { row := voteAgainUptoRow, standIns := [], harness := (true, "5d10170c6323c12972cf345de4996e1a02c9b57d75735375a50779d760897e80"), looks := false }, kinds := [], alts := [], laidByText := true, laidKinds := [.data], laidTests := true, laidLooks := .later }
def VoteAgainUptoCardSaid : Prop := Claim7.holds Tryd.pinned (.plain (OpenSpec.upto voteAgainSpec)) voteAgainUptoCard

/-- THE SECOND FORM's CARD OF 'conclavekeep.PickTurns'. -/
def pickTurnsUptoCard : Claim7 := { stood := { row := pickTurnsUptoRow, standIns := [], harness := (true, "5d10170c6323c12972cf345de4996e1a02c9b57d75735375a50779d760897e80"), looks := false }, kinds := [], alts := [], laidByText := true, laidKinds := [.data], laidTests := true, laidLooks := .later }
def PickTurnsUptoCardSaid : Prop := Claim7.holds Tryd.pinned (.plain (OpenSpec.upto pickTurnsSpec)) pickTurnsUptoCard
end Rows
end Go.Proofs.YticjofjghpdmpabDoor
