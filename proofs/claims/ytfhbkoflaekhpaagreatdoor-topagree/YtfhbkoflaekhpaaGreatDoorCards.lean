/-
  DERIVED. GIVEN WITH THE SEED: THE CARDS: each row of YtfhbkoflaekhpaaGreatDoorRows.lean that lists a variable, with what it lists TIED to the program's text (the seventh form; the later family's looks); each row that meets fmt, with fmt's text TOLD by the authors' own Lean function (tested against real Go, not proved from fmt's source: count such statements apart). THE CARD IS WHAT COUNTS. Prove the row's statement (the work); the ties are given (YtfhbkoflaekhpaaGreatDoorTie.lean); close each card by the builder's one call (the guide's Derived/Test/ToyasCard.lean, 'card_holds'). Laid BY PROGRAM, IN A SANDBOX (cutbox-door.mjs). By AI agents, Wed Nov 11 2026. No macro, syntax, notation, axiom, sorry.
-/
import Derived.Test.YtfhbkoflaekhpaaGreatDoorRows
import GoSem.ClaimSeven
namespace Go.Proofs.YtfhbkoflaekhpaaGreatDoor
namespace Rows

/-- THE TIED CARD OF 'conclavetop.TopAgree'. -/
def topAgreeCard : Claim7 := { stood := { row := topAgreeRow, standIns := [], harness := (true, "5c8776f5afb8769d7d23bc1b9d0cd1a87fcb82176402d679d8554aee1987f222"), looks := false }, kinds := [], alts := [], laidByText := true, laidKinds := [.data, .data, .data, .data, .data], laidTests := true, laidLooks := .later }
def TopAgreeCardSaid : Prop := Claim7.holds Tryz.pinned (.plain (OpenSpec.ofChange topAgreeSpec)) topAgreeCard

/-- THE SECOND FORM's CARD OF 'conclavetop.TopAgree'. -/
def topAgreeUptoCard : Claim7 := { stood := { row := topAgreeUptoRow, standIns := [], harness := (true, "5c8776f5afb8769d7d23bc1b9d0cd1a87fcb82176402d679d8554aee1987f222"), looks := false }, kinds := [], alts := [], laidByText := true, laidKinds := [.data, .data, .data, .data, .data], laidTests := true, laidLooks := .later }
def TopAgreeUptoCardSaid : Prop := Claim7.holds Tryz.pinned (.plain (OpenSpec.upto topAgreeSpec)) topAgreeUptoCard
end Rows
end Go.Proofs.YtfhbkoflaekhpaaGreatDoor
