/-
  DERIVED. GIVEN WITH THE SEED: THE CARDS: each row of YtakgfdbjgeopdaaDoorRows.lean that lists a variable, with what it lists TIED to the program's text (the seventh form; the later family's looks); each row that meets fmt, with fmt's text TOLD by the authors' own Lean function (tested against real Go, not proved from fmt's source: count such statements apart). THE CARD IS WHAT COUNTS. Prove the row's statement (the work); the ties are given (YtakgfdbjgeopdaaDoorTie.lean); close each card by the builder's one call (the guide's Derived/Test/ToyasCard.lean, 'card_holds'). Laid BY PROGRAM, IN A SANDBOX (cutbox-door.mjs). By AI agents, Wed Nov 11 2026. No macro, syntax, notation, axiom, sorry.
-/
import Derived.Test.YtakgfdbjgeopdaaDoorRows
import GoSem.ClaimSeven
namespace Go.Proofs.YtakgfdbjgeopdaaDoor
namespace Rows

/-- THE TIED CARD OF 'conclavelaw.MootKeys'. -/
def mootKeysCard : Claim7 := { stood := { row := mootKeysRow, standIns := [], harness := (true, "68d8a431e2acabe69cddadaddfbd758691470ccc8ce2c75a57b1c99f71029ffd"), looks := false }, kinds := [], alts := [], laidByText := true, laidKinds := [.data], laidTests := true, laidLooks := .later }
def MootKeysCardSaid : Prop := Claim7.holds Tryd.pinned (.plain (OpenSpec.ofChange mootKeysSpec)) mootKeysCard

/-- THE TIED CARD OF 'conclavelaw.MootIssuers'. -/
def mootIssuersCard : Claim7 := { stood := { row := mootIssuersRow, standIns := [], harness := (true, "68d8a431e2acabe69cddadaddfbd758691470ccc8ce2c75a57b1c99f71029ffd"), looks := false }, kinds := [], alts := [], laidByText := true, laidKinds := [.data], laidTests := true, laidLooks := .later }
def MootIssuersCardSaid : Prop := Claim7.holds Tryd.pinned (.plain (OpenSpec.ofChange mootIssuersSpec)) mootIssuersCard

/-- THE TIED CARD OF 'conclavekeep.PackBack'. -/
def packBackCard : Claim7 := { stood := { row := packBackRow, standIns := [], harness := (true, "68d8a431e2acabe69cddadaddfbd758691470ccc8ce2c75a57b1c99f71029ffd"), looks := false }, kinds := [], alts := [], laidByText := true, laidKinds := [.data, .data, .data], laidTests := true, laidLooks := .later }
def PackBackCardSaid : Prop := Claim7.holds Tryd.pinned (.plain (OpenSpec.ofChange packBackSpec)) packBackCard

/-- THE SECOND FORM's CARD OF 'conclavelaw.MootKeys'. -/
def mootKeysUptoCard : Claim7 := { stood := { row := mootKeysUptoRow, standIns := [], harness := (true, "68d8a431e2acabe69cddadaddfbd758691470ccc8ce2c75a57b1c99f71029ffd"), looks := false }, kinds := [], alts := [], laidByText := true, laidKinds := [.data], laidTests := true, laidLooks := .later }
def MootKeysUptoCardSaid : Prop := Claim7.holds Tryd.pinned (.plain (OpenSpec.upto mootKeysSpec)) mootKeysUptoCard

/-- THE SECOND FORM's CARD OF 'conclavelaw.MootIssuers'. -/
def mootIssuersUptoCard : Claim7 := { stood := { row := mootIssuersUptoRow, standIns := [], harness := (true, "68d8a431e2acabe69cddadaddfbd758691470ccc8ce2c75a57b1c99f71029ffd"), looks := false }, kinds := [], alts := [], laidByText := true, laidKinds := [.data], laidTests := true, laidLooks := .later }
def MootIssuersUptoCardSaid : Prop := Claim7.holds Tryd.pinned (.plain (OpenSpec.upto mootIssuersSpec)) mootIssuersUptoCard

/-- THE SECOND FORM's CARD OF 'conclavekeep.PackBack'. -/
def packBackUptoCard : Claim7 := { stood := { row := packBackUptoRow, standIns := [], harness := (true, "68d8a431e2acabe69cddadaddfbd758691470ccc8ce2c75a57b1c99f71029ffd"), looks := false }, kinds := [], alts := [], laidByText := true, laidKinds := [.data, .data, .data], laidTests := true, laidLooks := .later }
def PackBackUptoCardSaid : Prop := Claim7.holds Tryd.pinned (.plain (OpenSpec.upto packBackSpec)) packBackUptoCard
end Rows
end Go.Proofs.YtakgfdbjgeopdaaDoor
