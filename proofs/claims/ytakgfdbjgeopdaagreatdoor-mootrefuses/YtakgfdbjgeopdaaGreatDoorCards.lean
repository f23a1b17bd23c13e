/-
  DERIVED. GIVEN WITH THE SEED: THE CARDS: each row of YtakgfdbjgeopdaaGreatDoorRows.lean that lists a variable, with what it lists TIED to the program's text (the seventh form; the later family's looks); each row that meets fmt, with fmt's text TOLD by the authors' own Lean function (tested against real Go, not proved from fmt's source: count such statements apart). THE CARD IS WHAT COUNTS. Prove the row's statement (the work); the ties are given (YtakgfdbjgeopdaaGreatDoorTie.lean); close each card by the builder's one call (the guide's Derived/Test/ToyasCard.lean, 'card_holds'). Laid BY PROGRAM, IN A SANDBOX (cutbox-door.mjs). By AI agents, Wed Nov 11 2026. No macro, syntax, notation, axiom, sorry.
-/
import Derived.Test.YtakgfdbjgeopdaaGreatDoorRows
import GoSem.ClaimSeven
namespace Go.Proofs.YtakgfdbjgeopdaaGreatDoor
namespace Rows

/-- THE TIED CARD OF 'conclavelaw.MootPacks'. -/
def mootPacksCard : Claim7 := { stood := { row := mootPacksRow, standIns := [], harness := (true, "a76acc4b3c9ce86a37c0b28c2e946c413673a39678416215c7865a690497ef13"), looks := false }, kinds := [], alts := [], laidByText := true, laidKinds := [.data, .data, .data], laidTests := true, laidLooks := .later }
def MootPacksCardSaid : Prop := Claim7.holds Tryz.pinned (.plain (OpenSpec.ofChange mootPacksSpec)) mootPacksCard

/-- THE TIED CARD OF 'conclavelaw.MootOpens'. -/
def mootOpensCard : Claim7 := { stood := { row := mootOpensRow, standIns := [], harness := (true, "a76acc4b3c9ce86a37c0b28c2e946c413673a39678416215c7865a690497ef13"), looks := false }, kinds := [], alts := [], laidByText := true, laidKinds := [.data, .data, .data], laidTests := true, laidLooks := .later }
def MootOpensCardSaid : Prop := Claim7.holds Tryz.pinned (.plain (OpenSpec.ofChange mootOpensSpec)) mootOpensCard

/-- THE TIED CARD OF 'conclavelaw.MootRefuses'. -/
def mootRefusesCard : Claim7 := { stood := { row := mootRefusesRow, standIns := [], harness := (true, "a76acc4b3c9ce86a37c0b28c2e946c413673a39678416215c7865a690497ef13"), looks := false }, kinds := [], alts := [], laidByText := true, laidKinds := [.data, .data, .data, .data, .data], laidTests := true, laidLooks := .later }
def MootRefusesCardSaid : Prop := Claim7.holds Tryz.pinned (.plain (OpenSpec.ofChange mootRefusesSpec)) mootRefusesCard

/-- THE SECOND FORM's CARD OF 'conclavelaw.MootPacks'. -/
def mootPacksUptoCard : Claim7 := { stood := { row := mootPacksUptoRow, standIns := [], harness := (true, "a76acc4b3c9ce86a37c0b28c2e946c413673a39678416215c7865a690497ef13"), looks := false }, kinds := [], alts := [], laidByText := true, laidKinds := [.data, .data, .data], laidTests := true, laidLooks := .later }
def MootPacksUptoCardSaid : Prop := Claim7.holds Tryz.pinned (.plain (OpenSpec.upto mootPacksSpec)) mootPacksUptoCard

/-- THE SECOND FORM's CARD OF 'conclavelaw.MootOpens'. -/
def mootOpensUptoCard : Claim7 := { stood := { row := mootOpensUptoRow, standIns := [], harness := (true, "a76acc4b3c9ce86a37c0b28c2e946c413673a39678416215c7865a690497ef13"), looks := false }, kinds := [], alts := [], laidByText := true, laidKinds := [.data, .data, .data], laidTests := true, laidLooks := .later }
def MootOpensUptoCardSaid : Prop := Claim7.holds Tryz.pinned (.plain (OpenSpec.upto mootOpensSpec)) mootOpensUptoCard

/-- THE SECOND FORM's CARD OF 'conclavelaw.MootRefuses'. -/
def mootRefusesUptoCard : Claim7 := { stood := { row := mootRefusesUptoRow, standIns := [], harness := (true, "a76acc4b3c9ce86a37c0b28c2e946c413673a39678416215c7865a690497ef13"), looks := false }, kinds := [], alts := [], laidByText := true, laidKinds := [.data, .data, .data, .data, .data], laidTests := true, laidLooks := .later }
def MootRefusesUptoCardSaid : Prop := Claim7.holds Tryz.pinned (.plain (OpenSpec.upto mootRefusesSpec)) mootRefusesUptoCard
end Rows
end Go.Proofs.YtakgfdbjgeopdaaGreatDoor
