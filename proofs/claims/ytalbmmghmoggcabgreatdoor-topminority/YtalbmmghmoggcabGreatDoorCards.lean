/-
  DERIVED. GIVEN WITH THE SEED: THE CARDS: each row of YtalbmmghmoggcabGreatDoorRows.lean that lists a variable, with what it lists TIED to the program's text (the seventh form; the later family's looks); each row that meets fmt, with fmt's text TOLD by the authors' own Lean function (tested against real Go, not proved from fmt's source: count such statements apart). THE CARD IS WHAT COUNTS. Prove the row's statement (the work); the ties are given (YtalbmmghmoggcabGreatDoorTie.lean); close each card by the builder's one call (the guide's Derived/Test/ToyasCard.lean, 'card_holds'). Laid BY PROGRAM, IN A SANDBOX (cutbox-door.mjs). By AI agents, Wed Nov 11 2026. No macro, syntax, notation, axiom, sorry.
-/
import Derived.Test.YtalbmmghmoggcabGreatDoorRows
import GoSem.ClaimSeven
namespace Go.Proofs.YtalbmmghmoggcabGreatDoor
namespace Rows

/-- THE TIED CARD OF 'conclavetop.TopMinority'. -/
def topMinorityCard : Claim7 := { stood := { row := topMinorityRow, standIns := [], harness := (true, "fb32cade824dd4aeadcc9c1d1fab904c1aab044a992b8a8ef6aee479744dc21d"), looks := false }, kinds := [], alts := [], laidByText := true, laidKinds := [.data, .data, .data, .data, .data], laidTests := true, laidLooks := .later }
def TopMinorityCardSaid : Prop := Claim7.holds Tryz.pinned (.plain (OpenSpec.ofChange topMinoritySpec)) topMinorityCard

/-- THE SECOND FORM's CARD OF 'conclavetop.TopMinority'. -/
def topMinorityUptoCard : Claim7 := { stood := { row := topMinorityUptoRow, standIns := [], harness := (true, "fb32cade824dd4aeadcc9c1d1fab904c1aab044a992b8a8ef6aee479744dc21d"), looks := false }, kinds := [], alts := [], laidByText := true, laidKinds := [.data, .data, .data, .data, .data], laidTests := true, laidLooks := .later }
def TopMinorityUptoCardSaid : Prop := Claim7.holds Tryz.pinned (.plain (OpenSpec.upto topMinoritySpec)) topMinorityUptoCard
end Rows
end Go.Proofs.YtalbmmghmoggcabGreatDoor
