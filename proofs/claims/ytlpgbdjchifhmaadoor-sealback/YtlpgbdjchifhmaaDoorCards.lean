/-
  DERIVED. GIVEN WITH THE SEED: THE CARDS: each row of YtlpgbdjchifhmaaDoorRows.lean that lists a variable, with what it lists TIED to the program's text (the seventh form; the later family's looks); each row that meets fmt, with fmt's text TOLD by the authors' own Lean function (tested against real Go, not proved from fmt's source: count such statements apart). THE CARD IS WHAT COUNTS. Prove the row's statement (the work); the ties are given (YtlpgbdjchifhmaaDoorTie.lean); close each card by the builder's one call (the guide's Derived/Test/ToyasCard.lean, 'card_holds'). Laid BY PROGRAM, IN A SANDBOX (cutbox-door.mjs). By AI agents, Wed Nov 11 2026. No macro, syntax, notation, axiom, sorry.
-/
import Derived.Test.YtlpgbdjchifhmaaDoorRows
import GoSem.ClaimSeven
namespace Go.Proofs.YtlpgbdjchifhmaaDoor
namespace Rows

/-- THE TIED CARD OF 'conclavelaw.SealSeals'. -/
def sealSealsCard : Claim7 := { stood := { row := sealSealsRow, standIns := [], harness := (true, "e29887c6a99c1f99bf670de9f75e6aa8bafa1f68ac6b654e30c71cd0340b3bcc"), looks := false }, kinds := [], alts := [], laidByText := true, laidKinds := [.data], laidTests := true, laidLooks := .later }
def SealSealsCardSaid : Prop := Claim7.holds Tryd.pinned (.plain (OpenSpec.ofChange sealSealsSpec)) sealSealsCard

/-- THE TIED CARD OF 'conclavelaw.SealOpens'. -/
def sealOpensCard : Claim7 := { stood := { row := sealOpensRow, standIns := [], harness := (true, "e29887c6a99c1f99bf670de9f75e6aa8bafa1f68ac6b654e30c71cd0340b3bcc"), looks := false }, kinds := [], alts := [], laidByText := true, laidKinds := [.data], laidTests := true, laidLooks := .later }
def SealOpensCardSaid : Prop := Claim7.holds Tryd.pinned (.plain (OpenSpec.ofChange sealOpensSpec)) sealOpensCard

/-- THE TIED CARD OF 'conclavekeep.SealBack'. -/
def sealBackCard : Claim7 := { stood := { row := sealBackRow, standIns := [], harness := (true, "e29887c6a99c1f99bf670de9f75e6aa8bafa1f68ac6b654e30c71cd0340b3bcc"), looks := false }, kinds := [], alts := [], laidByText := true, laidKinds := [.data], laidTests := true, laidLooks := .later }
def SealBackCardSaid : Prop := Claim7.holds Tryd.pinned (.plain (OpenSpec.ofChange sealBackSpec)) sealBackCard

/-- THE TIED CARD OF 'conclavekeep.OpenFixed'. -/
def openFixedCard : Claim7 := { stood := { row := openFixedRow, standIns := [], harness := (true, "e29887c6a99c1f99bf670de9f75e6aa8bafa1f68ac6b654e30c71cd0340b3bcc"), looks := false }, kinds := [], alts := [], laidByText := true, laidKinds := [.data], laidTests := true, laidLooks := .later }
def OpenFixedCardSaid : Prop := Claim7.holds Tryd.pinned (.plain (OpenSpec.ofChange openFixedSpec)) openFixedCard

/-- THE TIED CARD OF 'conclavekeep.SealMixed'. -/
def sealMixedCard : Claim7 := { stood := { row := sealMixedRow, standIns := [], harness := (true, "e29887c6a99c1f99bf670de9f75e6aa8bafa1f68ac6b654e30c71cd0340b3bcc"), looks := false }, kinds := [], alts := [], laidByText := true, laidKinds := [.data], laidTests := true, laidLooks := .later }
def SealMixedCardSaid : Prop := Claim7.holds Tryd.pinned (.plain (OpenSpec.ofChange sealMixedSpec)) sealMixedCard

/-- THE TIED CARD OF 'conclavekeep.SealTag'. -/
def sealTagCard : Claim7 := { stood := { row := sealTagRow, standIns := [], harness := (true, "e29887c6a99c1f99bf670de9f75e6aa8bafa1f68ac6b654e30c71cd0340b3bcc"), looks := false }, kinds := [], alts := [], laidByText := true, laidKinds := [.data], laidTests := true, laidLooks := .later }
def SealTagCardSaid : Prop := Claim7.holds Tryd.pinned (.plain (OpenSpec.ofChange sealTagSpec)) sealTagCard

/-- THE SECOND FORM's CARD OF 'conclavelaw.SealSeals'. -/
def sealSealsUptoCard : Claim7 := { stood := { row := sealSealsUptoRow, standIns := [], harness := (true, "e29887c6a99c1f99bf670de9f75e6aa8bafa1f68ac6b654e30c71cd0340b3bcc"), looks := false }, kinds := [], alts := [], laidByText := true, laidKinds := [.data], laidTests := true, laidLooks := .later }
def SealSealsUptoCardSaid : Prop := Claim7.holds Tryd.pinned (.plain (OpenSpec.upto sealSealsSpec)) sealSealsUptoCard

/-- THE SECOND FORM's CARD OF 'conclavelaw.SealOpens'. -/
def sealOpensUptoCard : Claim7 := { stood := { row := sealOpensUptoRow, standIns := [], harness := (true, "e29887c6a99c1f99bf670de9f75e6aa8bafa1f68ac6b654e30c71cd0340b3bcc"), looks := false }, kinds := [], alts := [], laidByText := true, laidKinds := [.data], laidTests := true, laidLooks := .later }
def SealOpensUptoCardSaid : Prop := Claim7.holds Tryd.pinned (.plain (OpenSpec.upto sealOpensSpec)) sealOpensUptoCard

/-- THE SECOND FORM's CARD OF 'conclavekeep.SealBack'. -/
def sealBackUptoCard : Claim7 := { stood := { row := sealBackUptoRow, standIns := [], harness := (true, "e29887c6a99c1f99bf670de9f75e6aa8bafa1f68ac6b654e30c71cd0340b3bcc"), looks := false }, kinds := [], alts := [], laidByText := true, laidKinds := [.data], laidTests := true, laidLooks := .later }
def SealBackUptoCardSaid : Prop := Claim7.holds Tryd.pinned (.plain (OpenSpec.upto sealBackSpec)) sealBackUptoCard

/-- THE SECOND FORM's CARD OF 'conclavekeep.OpenFixed'. -/
def openFixedUptoCard : Claim7 := { stood := { row := openFixedUptoRow, standIns := [], harness := (true, "e29887c6a99c1f99bf670de9f75e6aa8bafa1f68ac6b654e30c71cd0340b3bcc"), looks := false }, kinds := [], alts := [], laidByText := true, laidKinds := [.data], laidTests := true, laidLooks := .later }
def OpenFixedUptoCardSaid : Prop := Claim7.holds Tryd.pinned (.plain (OpenSpec.upto openFixedSpec)) openFixedUptoCard

/-- THE SECOND FORM's CARD OF 'conclavekeep.SealMixed'. -/
def sealMixedUptoCard : Claim7 := { stood := { row := sealMixedUptoRow, standIns := [], harness := (true, "e29887c6a99c1f99bf670de9f75e6aa8bafa1f68ac6b654e30c71cd0340b3bcc"), looks := false }, kinds := [], alts := [], laidByText := true, laidKinds := [.data], laidTests := true, laidLooks := .later }
def SealMixedUptoCardSaid : Prop := Claim7.holds Tryd.pinned (.plain (OpenSpec.upto sealMixedSpec)) sealMixedUptoCard

/-- THE SECOND FORM's CARD OF 'conclavekeep.SealTag'. -/
def sealTagUptoCard : Claim7 := { stood := { row := sealTagUptoRow, standIns := [], harness := (true, "e29887c6a99c1f99bf670de9f75e6aa8bafa1f68ac6b654e30c71cd0340b3bcc"), looks := false }, kinds := [], alts := [], laidByText := true, laidKinds := [.data], laidTests := true, laidLooks := .later }
def SealTagUptoCardSaid : Prop := Claim7.holds Tryd.pinned (.plain (OpenSpec.upto sealTagSpec)) sealTagUptoCard
end Rows
end Go.Proofs.YtlpgbdjchifhmaaDoor
