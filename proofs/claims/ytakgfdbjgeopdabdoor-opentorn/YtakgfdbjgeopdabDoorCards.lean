/-
  DERIVED. GIVEN WITH THE SEED: THE CARDS: each row of YtakgfdbjgeopdabDoorRows.lean that lists a variable, with what it lists TIED to the program's text (the seventh form; the later family's looks); each row that meets fmt, with fmt's text TOLD by the authors' own Lean function (tested against real Go, not proved from fmt's source: count such statements apart). THE CARD IS WHAT COUNTS. Prove the row's statement (the work); the ties are given (YtakgfdbjgeopdabDoorTie.lean); close each card by the builder's one call (the guide's Derived/Test/ToyasCard.lean, 'card_holds'). Laid BY PROGRAM, IN A SANDBOX (cutbox-door.mjs). By AI agents, Wed Nov 11 2026. No macro, syntax, notation, axiom, sorry.
-/
import Derived.Test.YtakgfdbjgeopdabDoorRows
import GoSem.ClaimSeven
namespace Go.Proofs.YtakgfdbjgeopdabDoor
namespace Rows

/-- THE TIED CARD OF 'conclavekeep.PackApart'. -/
def packApartCard : Claim7 := { stood := { row := packApartRow, standIns := [], harness := (true, "c2ead3c2d76537c6773a1823355741caf904fe71a5beae306792cea566aaba2d"), looks := false }, kinds := [], alts := [], laidByText := true, laidKinds := [.data], laidTests := true, laidLooks := .later }
def PackApartCardSaid : Prop := Claim7.holds Tryd.pinned (.plain (OpenSpec.ofChange packApartSpec)) packApartCard

/-- THE TIED CARD OF 'conclavekeep.OpenTorn'. -/
def openTornCard : Claim7 := { stood := { row := openTornRow, standIns := [], harness := (true, "c2ead3c2d76537c6773a1823355741caf904fe71a5beae306792cea566aaba2d"), looks := false }, kinds := [], alts := [], laidByText := true, laidKinds := [.data, .data, .data], laidTests := true, laidLooks := .later }
def OpenTornCardSaid : Prop := Claim7.holds Tryd.pinned (.plain (OpenSpec.ofChange openTornSpec)) openTornCard

/-- THE TIED CARD OF 'conclavekeep.PackMade'. -/
def packMadeCard : Claim7 := { stood := { row := packMadeRow, standIns := [], harness := (true, "c2ead3c2d76537c6773a1823355741caf904fe71a5beae306792cea566aaba2d"), looks := false }, kinds := [], alts := [], laidByText := true, laidKinds := [.data, .data, .data], laidTests := true, laidLooks := .later }
def PackMadeCardSaid : Prop := Claim7.holds Tryd.pinned (.plain (OpenSpec.ofChange packMadeSpec)) packMadeCard

/-- THE SECOND FORM's CARD OF 'conclavekeep.PackApart'. -/
def packApartUptoCard : Claim7 := { stood := { row := packApartUptoRow, standIns := [], harness := (true, "c2ead3c2d76537c6773a1823355741caf904fe71a5beae306792cea566aaba2d"), looks := false }, kinds := [], alts := [], laidByText := true, laidKinds := [.data], laidTests := true, laidLooks := .later }
def PackApartUptoCardSaid : Prop := Claim7.holds Tryd.pinned (.plain (OpenSpec.upto packApartSpec)) packApartUptoCard

/-- THE SECOND FORM's CARD OF 'conclavekeep.OpenTorn'. -/
def openTornUptoCard : Claim7 := { stood := { row := openTornUptoRow, standIns := [], harness := (true, "c2ead3c2d76537c6773a1823355741caf904fe71a5beae306792cea566aaba2d"), looks := false }, kinds := [], alts := [], laidByText := true, laidKinds := [.data, .data, .data], laidTests := true, laidLooks := .later }
def OpenTornUptoCardSaid : Prop := Claim7.holds Tryd.pinned (.plain (OpenSpec.upto openTornSpec)) openTornUptoCard

/-- THE SECOND FORM's CARD OF 'conclavekeep.PackMade'. -/
def packMadeUptoCard : Claim7 := { stood := { row := packMadeUptoRow, standIns := [], harness := (true, "c2ead3c2d76537c6773a1823355741caf904fe71a5beae306792cea566aaba2d"), looks := false }, kinds := [], alts := [], laidByText := true, laidKinds := [.data, .data, .data], laidTests := true, laidLooks := .later }
def PackMadeUptoCardSaid : Prop := Claim7.holds Tryd.pinned (.plain (OpenSpec.upto packMadeSpec)) packMadeUptoCard
end Rows
end Go.Proofs.YtakgfdbjgeopdabDoor
