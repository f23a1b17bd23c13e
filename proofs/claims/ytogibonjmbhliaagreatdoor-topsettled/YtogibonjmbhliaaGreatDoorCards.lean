/-
  DERIVED. GIVEN WITH THE SEED: THE CARDS: each row of YtogibonjmbhliaaGreatDoorRows.lean that lists a variable, with what it lists TIED to the program's text (the seventh form; the later family's looks); each row that meets fmt, with fmt's text TOLD by the authors' own Lean function (tested against real Go, not proved from fmt's source: count such statements apart). THE CARD IS WHAT COUNTS. Prove the row's statement (the work); the ties are given (YtogibonjmbhliaaGreatDoorTie.lean); close each card by the builder's one call (the guide's Derived/Test/ToyasCard.lean, 'card_holds'). Laid BY PROGRAM, IN A SANDBOX (cutbox-door.mjs). By AI agents, Wed Nov 11 2026. No macro, syntax, notation, axiom, sorry.
-/
import Derived.Test.YtogibonjmbhliaaGreatDoorRows
import GoSem.ClaimSeven
namespace Go.Proofs.YtogibonjmbhliaaGreatDoor
namespace Rows

/-- THE TIED CARD OF 'conclavetop.TopSettled'. -/
def topSettledCard : Claim7 := { stood := { row := topSettledRow, standIns := [], harness := (true, "a05c1e9b0c174aead414e82341809c365f1916d5247fbbed1b077bc7c50db071"), looks := false }, kinds := [], alts := [], laidByText := true, laidKinds := [.data, .data, .data, .data, .data], laidTests := true, laidLooks := .later }
def TopSettledCardSaid : Prop := Claim7.holds Tryz.pinned (.plain (OpenSpec.ofChange topSettledSpec)) topSettledCard

/-- THE SECOND FORM's CARD OF 'conclavetop.TopSettled'. -/
def topSettledUptoCard : Claim7 := { stood := { row := topSettledUptoRow, standIns := [], harness := (true, "a05c1e9b0c174aead414e82341809c365f1916d5247fbbed1b077bc7c50db071"), looks := false }, kinds := [], alts := [], laidByText := true, laidKinds := [.data, .data, .data, .data, .data], laidTests := true, laidLooks := .later }
def TopSettledUptoCardSaid : Prop := Claim7.holds Tryz.pinned (.plain (OpenSpec.upto topSettledSpec)) topSettledUptoCard
end Rows
end Go.Proofs.YtogibonjmbhliaaGreatDoor
