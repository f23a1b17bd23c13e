/-
  DERIVED. GIVEN WITH THE SEED: THE CARDS: each row of YtlcbebiocmmbaabDoorRows.lean that lists a variable, with what it lists TIED to the program's text (the seventh form; the later family's looks); each row that meets fmt, with fmt's text TOLD by the authors' own Lean function (tested against real Go, not proved from fmt's source: count such statements apart). THE CARD IS WHAT COUNTS. Prove the row's statement (the work); the ties are given (YtlcbebiocmmbaabDoorTie.lean); close each card by the builder's one call (the guide's Derived/Test/ToyasCard.lean, 'card_holds'). Laid BY PROGRAM, IN A SANDBOX (cutbox-door.mjs). By AI agents, Wed Nov 11 2026. No macro, syntax, notation, axiom, sorry.
-/
import Derived.Test.YtlcbebiocmmbaabDoorRows
import GoSem.ClaimSeven
namespace Go.Proofs.YtlcbebiocmmbaabDoor
namespace Rows

/-- THE TIED CARD OF 'conclavekeep.ActBare'. -/
def actBareCard : Claim7 := { stood := { row := actBareRow, standIns := [], harness := (true, "97a8cb531d10aba57bcc0772721f35e7a033d4bc743222d454409dfe26ccfb58"), looks := false }, kinds := [], alts := [], laidByText := true, laidKinds := [.data, .data], laidTests := true, laidLooks := .later }
def ActBareCardSaid : Prop := Claim7.holds Tryd.pinned (.plain (OpenSpec.ofChange actBareSpec)) actBareCard

/-- THE SECOND FORM's CARD OF 'conclavekeep.ActBare'. -/
def actBareUptoCard : Claim7 := { stood := { row := actBareUptoRow, standIns := [], harness := (true, "97a8cb531d10aba57bcc0772721f35e7a033d4bc743222d454409dfe26ccfb58"), looks := false }, kinds := [], alts := [], laidByText := true, laidKinds := [.data, .data], laidTests := true, laidLooks := .later }
def ActBareUptoCardSaid : Prop := Claim7.holds Tryd.pinned (.plain (OpenSpec.upto actBareSpec)) actBareUptoCard
end Rows
end Go.Proofs.YtlcbebiocmmbaabDoor
