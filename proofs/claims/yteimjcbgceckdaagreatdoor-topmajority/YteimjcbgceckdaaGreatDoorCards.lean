/-
  DERIVED. GIVEN WITH THE SEED: THE CARDS: each row of YteimjcbgceckdaaGreatDoorRows.lean that lists a variable, with what it lists TIED to the program's text (the seventh form; the later family's looks); each row that meets fmt, with fmt's text TOLD by the authors' own Lean function (tested against real Go, not proved from fmt's source: count such statements apart). THE CARD IS WHAT COUNTS. Prove the row's statement (the work); the ties are given (YteimjcbgceckdaaGreatDoorTie.lean); close each card by the builder's one call (the guide's Derived/Test/ToyasCard.lean, 'card_holds'). Laid BY PROGRAM, IN A SANDBOX (cutbox-door.mjs). By AI agents, Wed Nov 11 2026. No macro, syntax, notation, axiom, sorry.
-/
import Derived.Test.YteimjcbgceckdaaGreatDoorRows
import GoSem.ClaimSeven
namespace Go.Proofs.YteimjcbgceckdaaGreatDoor
namespace Rows

/-- THE TIED CARD OF 'conclavetop.TopMajority'. -/
def topMajorityCard : Claim7 := { stood := { row := topMajorityRow, standIns := [], harness := (true, "2a38a9a9462d1d3c73f8f47c67f8c4ae2ccc22460b60f06c8cc8557f88be7314"), looks := false }, kinds := [], alts := [], laidByText := true, laidKinds := [.data, .data, .data, .data, .data], laidTests := true, laidLooks := .later }
def TopMajorityCardSaid : Prop := Claim7.holds Tryz.pinned (.plain (OpenSpec.ofChange topMajoritySpec)) topMajorityCard

/-- THE SECOND FORM's CARD OF 'conclavetop.TopMajority'. -/
def topMajorityUptoCard : Claim7 := { stood := { row := topMajorityUptoRow, standIns := [], harness := (true, "2a38a9a9462d1d3c73f8f47c67f8c4ae2ccc22460b60f06c8cc8557f88be7314"), looks := false }, kinds := [], alts := [], laidByText := true, laidKinds := [.data, .data, .data, .data, .data], laidTests := true, laidLooks := .later }
def TopMajorityUptoCardSaid : Prop := Claim7.holds Tryz.pinned (.plain (OpenSpec.upto topMajoritySpec)) topMajorityUptoCard
end Rows
end Go.Proofs.YteimjcbgceckdaaGreatDoor
