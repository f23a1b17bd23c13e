/-
  DERIVED. GIVEN WITH THE SEED: THE CARDS: each row of YthkjeoamjgnpoaaGreatDoorRows.lean that lists a variable, with what it lists TIED to the program's text (the seventh form; the later family's looks); each row that meets fmt, with fmt's text TOLD by the authors' own Lean function (tested against real Go, not proved from fmt's source: count such statements apart). THE CARD IS WHAT COUNTS. Prove the row's statement (the work); the ties are given (YthkjeoamjgnpoaaGreatDoorTie.lean); close each card by the builder's one call (the guide's Derived/Test/ToyasCard.lean, 'card_holds'). Laid BY PROGRAM, IN A SANDBOX (cutbox-door.mjs). By AI agents, Wed Nov 11 2026. No macro, syntax, notation, axiom, sorry.
-/
import Derived.Test.YthkjeoamjgnpoaaGreatDoorRows
import GoSem.ClaimSeven
namespace Go.Proofs.YthkjeoamjgnpoaaGreatDoor
namespace Rows

/-- THE TIED CARD OF 'conclavetop.TopClients'. -/
def topClientsCard : Claim7 := { stood := { row := topClientsRow, standIns := [], harness := (true, "278be31ccd23c5c7659793d8aeac42557cc526c5be2a243ab8349f55e5bd9ea5"), looks := false }, kinds := [], alts := [], laidByText := true, laidKinds := [.data, .data, .data, .data, .data], laidTests := true, laidLooks := .later }
def TopClientsCardSaid : Prop := Claim7.holds Tryz.pinned (.plain (OpenSpec.ofChange topClientsSpec)) topClientsCard

/-- THE SECOND FORM's CARD OF 'conclavetop.TopClients'. -/
def topClientsUptoCard : Claim7 := { stood := { row := topClientsUptoRow, standIns := [], harness := (true, "278be31ccd23c5c7659793d8aeac42557cc526c5be2a243ab8349f55e5bd9ea5"), looks := false }, kinds := [], alts := [], laidByText := true, laidKinds := [.data, .data, .data, .data, .data], laidTests := true, laidLooks := .later }
def TopClientsUptoCardSaid : Prop := Claim7.holds Tryz.pinned (.plain (OpenSpec.upto topClientsSpec)) topClientsUptoCard
end Rows
end Go.Proofs.YthkjeoamjgnpoaaGreatDoor
