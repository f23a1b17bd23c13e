/-
  DERIVED. GIVEN WITH THE SEED: THE CARDS: each row of YtalbmmghmoggcacGreatDoorRows.lean that lists a variable, with what it lists TIED to the program's text (the seventh form; the later family's looks); each row that meets fmt, with fmt's text TOLD by the authors' own Lean function (tested against real Go, not proved from fmt's source: count such statements apart). THE CARD IS WHAT COUNTS. Prove the row's statement (the work); the ties are given (YtalbmmghmoggcacGreatDoorTie.lean); close each card by the builder's one call (the guide's Derived/Test/ToyasCard.lean, 'card_holds'). Laid BY PROGRAM, IN A SANDBOX (cutbox-door.mjs). By AI agents, Wed Nov 11 2026. No macro, syntax, notation, axiom, sorry.
-/
import Derived.Test.YtalbmmghmoggcacGreatDoorRows
import GoSem.ClaimSeven
namespace Go.Proofs.YtalbmmghmoggcacGreatDoor
namespace Rows

/-- THE TIED CARD OF 'conclavetop.TopTwo'. -/
def topTwoCard : Claim7 := { stood := { row := topTwoRow, standIns := [], harness := (true, "2c910c26ec2d7aa6ead33d1b1fba1b8d88c7ec9baaa260b3f1ed2c1a97177781"), looks := false }, kinds := [], alts := [], laidByText := true, laidKinds := [.data, .data, .data, .data, .data], laidTests := true, laidLooks := .later }
def TopTwoCardSaid : Prop := Claim7.holds Tryz.pinned (.plain (OpenSpec.ofChange topTwoSpec)) topTwoCard

/-- THE SECOND FORM's CARD OF 'conclavetop.TopTwo'. -/
def topTwoUptoCard : Claim7 := { stood := { row := topTwoUptoRow, standIns := [], harness := (true, "2c910c26ec2d7aa6ead33d1b1fba1b8d88c7ec9baaa260b3f1ed2c1a97177781"), looks := false }, kinds := [], alts := [], laidByText := true, laidKinds := [.data, .data, .data, .data, .data], laidTests := true, laidLooks := .later }
def TopTwoUptoCardSaid : Prop := Claim7.holds Tryz.pinned (.plain (OpenSpec.upto topTwoSpec)) topTwoUptoCard
end Rows
end Go.Proofs.YtalbmmghmoggcacGreatDoor
