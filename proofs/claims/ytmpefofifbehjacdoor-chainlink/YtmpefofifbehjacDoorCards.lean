/-
  DERIVED. GIVEN WITH THE SEED: THE CARDS: each row of YtmpefofifbehjacDoorRows.lean that lists a variable, with what it lists TIED to the program's text (the seventh form; the later family's looks); each row that meets fmt, with fmt's text TOLD by the authors' own Lean function (tested against real Go, not proved from fmt's source: count such statements apart). THE CARD IS WHAT COUNTS. Prove the row's statement (the work); the ties are given (YtmpefofifbehjacDoorTie.lean); close each card by the builder's one call (the guide's Derived/Test/ToyasCard.lean, 'card_holds'). Laid BY PROGRAM, IN A SANDBOX (cutbox-door.mjs). By AI agents, Wed Nov 11 2026. No macro, syntax, notation, axiom, sorry.
-/
import Derived.Test.YtmpefofifbehjacDoorRows
import GoSem.ClaimSeven
namespace Go.Proofs.YtmpefofifbehjacDoor
namespace Rows

/-- THE TIED CARD OF 'conclavekeep.DoTurns'. -/
def doTurnsCard : Claim7 := { stood := { row := doTurnsRow, standIns := [], harness := (true, "d2b2985b4d13f66835dc2966ab1f14a0d01e8be85d3524a24d2b9693db33b326"), looks := false }, kinds := [], alts := [], laidByText := true, laidKinds := [.data], laidTests := true, laidLooks := .later }
def DoTurnsCardSaid : Prop := Claim7.holds Tryd.pinned (.plain (OpenSpec.ofChange doTurnsSpec)) doTurnsCard

/-- THE TIED CARD OF 'conclavekeep.DoRises'. -/
def doRisesCard : Claim7 := { stood := { row := doRisesRow, standIns := [], harness := (true, "d2b2985b4d13f66835dc2966ab1f14a0d01e8be85d3524a24d2b9693db33b326"), looks := false }, kinds := [], alts := [], laidByText := true, laidKinds := [.data], laidTests := true, laidLooks := .later }
def DoRisesCardSaid : Prop := Claim7.holds Tryd.pinned (.plain (OpenSpec.ofChange doRisesSpec)) doRisesCard

/-- THE TIED CARD OF 'conclavekeep.ChainLink'. -/
def chainLinkCard : Claim7 := { stood := { row := chainLinkRow, standIns := [], harness := (true, "d2b2985b4d13f66835dc2966ab1f14a0d01e8be85d3524a24d2b9693db33b326"), looks := false }, kinds := [], alts := [], laidByText := true, laidKinds := [.data, .data], laidTests := true, laidLooks := .later }
def ChainLinkCardSaid : Prop := Claim7.holds Tryd.pinned (.plain (OpenSpec.ofChange chainLinkSpec)) chainLinkCard

/-- THE SECOND FORM's CARD OF 'conclavekeep.DoTurns'. -/
def doTurnsUptoCard : Claim7 := { stood := { row := doTurnsUptoRow, standIns := [], harness := (true, "d2b2985b4d13f66835dc2966ab1f14a0d01e8be85d3524a24d2b9693db33b326"), looks := false }, kinds := [], alts := [], laidByText := true, laidKinds := [.data], laidTests := true, laidLooks := .later }
def DoTurnsUptoCardSaid : Prop := Claim7.holds Tryd.pinned (.plain (OpenSpec.upto doTurnsSpec)) doTurnsUptoCard

/-- THE SECOND FORM's CARD OF 'conclavekeep.DoRises'. -/
def doRisesUptoCard : Claim7 := { stood := { row := doRisesUptoRow, standIns := [], harness := (true, "d2b2985b4d13f66835dc2966ab1f14a0d01e8be85d3524a24d2b9693db33b326"), looks := false }, kinds := [], alts := [], laidByText := true, laidKinds := [.data], laidTests := true, laidLooks := .later }
def DoRisesUptoCardSaid : Prop := Claim7.holds Tryd.pinned (.plain (OpenSpec.upto doRisesSpec)) doRisesUptoCard

/-- THE SECOND FORM's CARD OF 'conclavekeep.ChainLink'. -/
def chainLinkUptoCard : Claim7 := { stood := { row := chainLinkUptoRow, standIns := [], harness := (true, "d2b2985b4d13f66835dc2966ab1f14a0d01e8be85d3524a24d2b9693db33b326"), looks := false }, kinds := [], alts := [], laidByText := true, laidKinds := [.data, .data], laidTests := true, laidLooks := .later }
def ChainLinkUptoCardSaid : Prop := Claim7.holds Tryd.pinned (.plain (OpenSpec.upto chainLinkSpec)) chainLinkUptoCard
end Rows
end Go.Proofs.YtmpefofifbehjacDoor
