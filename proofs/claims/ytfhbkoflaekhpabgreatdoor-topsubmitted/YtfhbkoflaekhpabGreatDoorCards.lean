/-
  DERIVED. GIVEN WITH THE SEED: THE CARDS: each row of YtfhbkoflaekhpabGreatDoorRows.lean that lists a variable, with what it lists TIED to the program's text (the seventh form; the later family's looks); each row that meets fmt, with fmt's text TOLD by the authors' own Lean function (tested against real Go, not proved from fmt's source: count such statements apart). THE CARD IS WHAT COUNTS. Prove the row's statement (the work); the ties are given (YtfhbkoflaekhpabGreatDoorTie.lean); close each card by the builder's one call (the guide's Derived/Test/ToyasCard.lean, 'card_holds'). Laid BY PROGRAM, IN A SANDBOX (cutbox-door.mjs). By AI agents, Wed Nov 11 2026. No macro, syntax, notation, axiom, sorry.
-/
import Derived.Test.YtfhbkoflaekhpabGreatDoorRows
import GoSem.ClaimSeven
namespace Go.Proofs.YtfhbkoflaekhpabGreatDoor
namespace Rows

/-- THE TIED CARD OF 'conclavetop.TopSubmitted'. -/
def topSubmittedCard : Claim7 := { stood := { row := topSubmittedRow, standIns := [], harness := (true, "f01c24021795f568c8293832951b312441d1b15a09d8b573683ac102097291ff"), looks := false }, kinds := [], alts := [], laidByText := true, laidKinds := [.data, .data, .data, .data, .data], laidTests := true, laidLooks := .later }
def TopSubmittedCardSaid : Prop := Claim7.holds Tryz.pinned (.plain (OpenSpec.ofChange topSubmittedSpec)) topSubmittedCard

/-- THE SECOND FORM's CARD OF 'conclavetop.TopSubmitted'. -/
def topSubmittedUptoCard : Claim7 := { stood := { row := topSubmittedUptoRow, standIns := [], harness := (true, "f01c24021795f568c8293832951b312441d1b15a09d8b573683ac102097291ff"), looks := false }, kinds := [], alts := [], laidByText := true, laidKinds := [.data, .data, .data, .data, .data], laidTests := true, laidLooks := .later }
def TopSubmittedUptoCardSaid : Prop := Claim7.holds Tryz.pinned (.plain (OpenSpec.upto topSubmittedSpec)) topSubmittedUptoCard
end Rows
end Go.Proofs.YtfhbkoflaekhpabGreatDoor
