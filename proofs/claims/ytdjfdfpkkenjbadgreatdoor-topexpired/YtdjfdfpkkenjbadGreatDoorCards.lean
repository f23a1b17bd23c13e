/-
  DERIVED. GIVEN WITH THE SEED: THE CARDS: each row of YtdjfdfpkkenjbadGreatDoorRows.lean that lists a variable, with what it lists TIED to the program's text (the seventh form; the later family's looks); each row that meets fmt, with fmt's text TOLD by the authors' own Lean function (tested against real Go, not proved from fmt's source: count such statements apart). THE CARD IS WHAT COUNTS. Prove the row's statement (the work); the ties are given (YtdjfdfpkkenjbadGreatDoorTie.lean); close each card by the builder's one call (the guide's Derived/Test/ToyasCard.lean, 'card_holds'). Laid BY PROGRAM, IN A SANDBOX (cutbox-door.mjs). By AI agents, Wed Nov 11 2026. No macro, syntax, notation, axiom, sorry.
-/
import Derived.Test.YtdjfdfpkkenjbadGreatDoorRows
import GoSem.ClaimSeven
namespace Go.Proofs.YtdjfdfpkkenjbadGreatDoor
namespace Rows

/-- THE TIED CARD OF 'conclavetop.TopExpired'. -/
def topExpiredCard : Claim7 := { stood := { row := topExpiredRow, standIns := [], harness := (true, "6614046416ad250df10c3ff5adf4478cb617af5a0f5ab1fdb53b5ee0f33fa9cb"), looks := false }, kinds := [], alts := [], laidByText := true, laidKinds := [.data, .data, .data, .data, .data], laidTests := true, laidLooks := .later }
def TopExpiredCardSaid : Prop := Claim7.holds Tryz.pinned (.plain (OpenSpec.ofChange topExpiredSpec)) topExpiredCard

/-- THE SECOND FORM's CARD OF 'conclavetop.TopExpired'. -/
def topExpiredUptoCard : Claim7 := { stood := { row := topExpiredUptoRow, standIns := [], harness := (true, "6614046416ad250df10c3ff5adf4478cb617af5a0f5ab1fdb53b5ee0f33fa9cb"), looks := false }, kinds := [], alts := [], laidByText := true, laidKinds := [.data, .data, .data, .data, .data], laidTests := true, laidLooks := .later }
def TopExpiredUptoCardSaid : Prop := Claim7.holds Tryz.pinned (.plain (OpenSpec.upto topExpiredSpec)) topExpiredUptoCard
end Rows
end Go.Proofs.YtdjfdfpkkenjbadGreatDoor
