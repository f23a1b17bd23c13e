/-
  DERIVED. GIVEN WITH THE SEED: THE CARDS: each row of YtalbmmghmoggcadGreatDoorRows.lean that lists a variable, with what it lists TIED to the program's text (the seventh form; the later family's looks); each row that meets fmt, with fmt's text TOLD by the authors' own Lean function (tested against real Go, not proved from fmt's source: count such statements apart). THE CARD IS WHAT COUNTS. Prove the row's statement (the work); the ties are given (YtalbmmghmoggcadGreatDoorTie.lean); close each card by the builder's one call (the guide's Derived/Test/ToyasCard.lean, 'card_holds'). Laid BY PROGRAM, IN A SANDBOX (cutbox-door.mjs). By AI agents, Wed Nov 11 2026. No macro, syntax, notation, axiom, sorry.
-/
import Derived.Test.YtalbmmghmoggcadGreatDoorRows
import GoSem.ClaimSeven
namespace Go.Proofs.YtalbmmghmoggcadGreatDoor
namespace Rows

/-- THE TIED CARD OF 'conclavetop.TopReign'. -/
def topReignCard : Claim7 := { stood := { row := topReignRow, standIns := [], harness := (true, "10d67bc074436541ae0d2ef6a2f83a87799c13c6f34c5f40b1f3283c51e00b8e"), looks := false }, kinds := [], alts := [], laidByText := true, laidKinds := [.data, .data, .data, .data, .data], laidTests := true, laidLooks := .later }
def TopReignCardSaid : Prop := Claim7.holds Tryz.pinned (.plain (OpenSpec.ofChange topReignSpec)) topReignCard

/-- THE SECOND FORM's CARD OF 'conclavetop.TopReign'. -/
def topReignUptoCard : Claim7 := { stood := { row := topReignUptoRow, standIns := [], harness := (true, "10d67bc074436541ae0d2ef6a2f83a87799c13c6f34c5f40b1f3283c51e00b8e"), looks := false }, kinds := [], alts := [], laidByText := true, laidKinds := [.data, .data, .data, .data, .data], laidTests := true, laidLooks := .later }
def TopReignUptoCardSaid : Prop := Claim7.holds Tryz.pinned (.plain (OpenSpec.upto topReignSpec)) topReignUptoCard
end Rows
end Go.Proofs.YtalbmmghmoggcadGreatDoor
