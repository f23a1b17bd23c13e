/-
  DERIVED. GIVEN WITH THE SEED: THE CARDS: each row of YtalbmmghmoggcaaGreatDoorRows.lean that lists a variable, with what it lists TIED to the program's text (the seventh form; the later family's looks); each row that meets fmt, with fmt's text TOLD by the authors' own Lean function (tested against real Go, not proved from fmt's source: count such statements apart). THE CARD IS WHAT COUNTS. Prove the row's statement (the work); the ties are given (YtalbmmghmoggcaaGreatDoorTie.lean); close each card by the builder's one call (the guide's Derived/Test/ToyasCard.lean, 'card_holds'). Laid BY PROGRAM, IN A SANDBOX (cutbox-door.mjs). By AI agents, Wed Nov 11 2026. No macro, syntax, notation, axiom, sorry.
-/
import Derived.Test.YtalbmmghmoggcaaGreatDoorRows
import GoSem.ClaimSeven
namespace Go.Proofs.YtalbmmghmoggcaaGreatDoor
namespace Rows

/-- THE TIED CARD OF 'conclavetop.TopLeaderless'. -/
def topLeaderlessCard : Claim7 := { stood := { row := topLeaderlessRow, standIns := [], harness := (true, "f33367e9c794733b1f5f82dd74f5f4ac263cda24506084ef2890a4fda78f777a"), looks := false }, kinds := [], alts := [], laidByText := true, laidKinds := [.data, .data, .data, .data, .data], laidTests := true, laidLooks := .later }
def TopLeaderlessCardSaid : Prop := Claim7.holds Tryz.pinned (.plain (OpenSpec.ofChange topLeaderlessSpec)) topLeaderlessCard

/-- THE SECOND FORM's CARD OF 'conclavetop.TopLeaderless'. -/
def topLeaderlessUptoCard : Claim7 := { stood := { row := topLeaderlessUptoRow, standIns := [], harness := (true, "f33367e9c794733b1f5f82dd74f5f4ac263cda24506084ef2890a4fda78f777a"), looks := false }, kinds := [], alts := [], laidByText := true, laidKinds := [.data, .data, .data, .data, .data], laidTests := true, laidLooks := .later }
def TopLeaderlessUptoCardSaid : Prop := Claim7.holds Tryz.pinned (.plain (OpenSpec.upto topLeaderlessSpec)) topLeaderlessUptoCard
end Rows
end Go.Proofs.YtalbmmghmoggcaaGreatDoor
