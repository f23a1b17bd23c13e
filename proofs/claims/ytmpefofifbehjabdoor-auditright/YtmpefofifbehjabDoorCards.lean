/-
  DERIVED. GIVEN WITH THE SEED: THE CARDS: each row of YtmpefofifbehjabDoorRows.lean that lists a variable, with what it lists TIED to the program's text (the seventh form; the later family's looks); each row that meets fmt, with fmt's text TOLD by the authors' own Lean function (tested against real Go, not proved from fmt's source: count such statements apart). THE CARD IS WHAT COUNTS. Prove the row's statement (the work); the ties are given (YtmpefofifbehjabDoorTie.lean); close each card by the builder's one call (the guide's Derived/Test/ToyasCard.lean, 'card_holds'). Laid BY PROGRAM, IN A SANDBOX (cutbox-door.mjs). By AI agents, Wed Nov 11 2026. No macro, syntax, notation, axiom, sorry.
-/
import Derived.Test.YtmpefofifbehjabDoorRows
import GoSem.ClaimSeven
namespace Go.Proofs.YtmpefofifbehjabDoor
namespace Rows

/-- THE TIED CARD OF 'conclavekeep.DoRevoked'. -/
def doRevokedCard : Claim7 := { stood := { row := doRevokedRow, standIns := [], harness := (true, "7afa72e77ad9c3cc50374d4653824f183cd1c3c2c84dabbe997dbc5937bc1c10"), looks := false }, kinds := [], alts := [], laidByText := true, laidKinds := [.data], laidTests := true, laidLooks := .later }
def DoRevokedCardSaid : Prop := Claim7.holds Tryd.pinned (.plain (OpenSpec.ofChange doRevokedSpec)) doRevokedCard

/-- THE TIED CARD OF 'conclavekeep.DoNoop'. -/
def doNoopCard : Claim7 := { stood := { row := doNoopRow, standIns := [], harness := (true, "7afa72e77ad9c3cc50374d4653824f183cd1c3c2c84dabbe997dbc5937bc1c10"), looks := false }, kinds := [], alts := [], laidByText := true, laidKinds := [.data], laidTests := true, laidLooks := .later }
def DoNoopCardSaid : Prop := Claim7.holds Tryd.pinned (.plain (OpenSpec.ofChange doNoopSpec)) doNoopCard

/-- THE TIED CARD OF 'conclavekeep.ChainTells'. -/
def chainTellsCard : Claim7 := { stood := { row := chainTellsRow, standIns := [], harness := (true, "7afa72e77ad9c3cc50374d4653824f183cd1c3c2c84dabbe997dbc5937bc1c10"), looks := false }, kinds := [], alts := [], laidByText := true, laidKinds := [.data, .data], laidTests := true, laidLooks := .later }
def ChainTellsCardSaid : Prop := Claim7.holds Tryd.pinned (.plain (OpenSpec.ofChange chainTellsSpec)) chainTellsCard

/-- THE TIED CARD OF 'conclavekeep.ChainCut'. -/
def chainCutCard : Claim7 := { stood := { row := chainCutRow, standIns := [], harness := (true, "7afa72e77ad9c3cc50374d4653824f183cd1c3c2c84dabbe997dbc5937bc1c10"), looks := false }, kinds := [], alts := [], laidByText := true, laidKinds := [.data, .data], laidTests := true, laidLooks := .later }
def ChainCutCardSaid : Prop := Claim7.holds Tryd.pinned (.plain (OpenSpec.ofChange chainCutSpec)) chainCutCard

/-- THE TIED CARD OF 'conclavekeep.AuditRight'. -/
def auditRightCard : Claim7 := { stood := { row := auditRightRow, standIns := [], harness := (true, "7afa72e77ad9c3cc50374d4653824f183cd1c3c2c84dabbe997dbc5937bc1c10"), looks := false }, kinds := [], alts := [], laidByText := true, laidKinds := [.data, .data], laidTests := true, laidLooks := .later }
def AuditRightCardSaid : Prop := Claim7.holds Tryd.pinned (.plain (OpenSpec.ofChange auditRightSpec)) auditRightCard

/-- THE TIED CARD OF 'conclavekeep.AuditCut'. -/
def auditCutCard : Claim7 := { stood := { row := auditCutRow, standIns := [], harness := (true, "7afa72e77ad9c3cc50374d4653824f183cd1c3c2c84dabbe997dbc5937bc1c10"), looks := false }, kinds := [], alts := [], laidByText := true, laidKinds := [.data, .data], laidTests := true, laidLooks := .later }
def AuditCutCardSaid : Prop := Claim7.holds Tryd.pinned (.plain (OpenSpec.ofChange auditCutSpec)) auditCutCard

/-- THE SECOND FORM's CARD OF 'conclavekeep.DoRevoked'. -/
def doRevokedUptoCard : Claim7 := { stood := { row := doRevokedUptoRow, standIns := [], harness := (true, "7afa72e77ad9c3cc50374d4653824f183cd1c3c2c84dabbe997dbc5937bc1c10"), looks := false }, kinds := [], alts := [], laidByText := true, laidKinds := [.data], laidTests := true, laidLooks := .later }
def DoRevokedUptoCardSaid : Prop := Claim7.holds Tryd.pinned (.plain (OpenSpec.upto doRevokedSpec)) doRevokedUptoCard

/-- THE SECOND FORM's CARD OF 'conclavekeep.DoNoop'. -/
def doNoopUptoCard : Claim7 := { stood := { row := doNoopUptoRow, standIns := [], harness := (true, "7afa72e77ad9c3cc50374d4653824f183cd1c3c2c84dabbe997dbc5937bc1c10"), looks := false }, kinds := [], alts := [], laidByText := true, laidKinds := [.data], laidTests := true, laidLooks := .later }
def DoNoopUptoCardSaid : Prop := Claim7.holds Tryd.pinned (.plain (OpenSpec.upto doNoopSpec)) doNoopUptoCard

/-- THE SECOND FORM's CARD OF 'conclavekeep.ChainTells'. -/
def chainTellsUptoCard : Claim7 := { stood := { row := chainTellsUptoRow, standIns := [], harness := (true, "7afa72e77ad9c3cc50374d4653824f183cd1c3c2c84dabbe997dbc5937bc1c10"), looks := false }, kinds := [], alts := [], laidByText := true, laidKinds := [.data, .data], laidTests := true, laidLooks := .later }
def ChainTellsUptoCardSaid : Prop := Claim7.holds Tryd.pinned (.plain (OpenSpec.upto chainTellsSpec)) chainTellsUptoCard

/-- THE SECOND FORM's CARD OF 'conclavekeep.ChainCut'. -/
def chainCutUptoCard : Claim7 := { stood := { row := chainCutUptoRow, standIns := [], harness := (true, "7afa72e77ad9c3cc50374d4653824f183cd1c3c2c84dabbe997dbc5937bc1c10"), looks := false }, kinds := [], alts := [], laidByText := true, laidKinds := [.data, .data], laidTests := true, laidLooks := .later }
def ChainCutUptoCardSaid : Prop := Claim7.holds Tryd.pinned (.plain (OpenSpec.upto chainCutSpec)) chainCutUptoCard

/-- THE SECOND FORM's CARD OF 'conclavekeep.AuditRight'. -/
def auditRightUptoCard : Claim7 := { stood := { row := auditRightUptoRow, standIns := [], harness := (true, "7afa72e77ad9c3cc50374d4653824f183cd1c3c2c84dabbe997dbc5937bc1c10"), looks := false }, kinds := [], alts := [], laidByText := true, laidKinds := [.data, .data], laidTests := true, laidLooks := .later }
def AuditRightUptoCardSaid : Prop := Claim7.holds Tryd.pinned (.plain (OpenSpec.upto auditRightSpec)) auditRightUptoCard

/-- THE SECOND FORM's CARD OF 'conclavekeep.AuditCut'. -/
def auditCutUptoCard : Claim7 := { stood := { row := auditCutUptoRow, standIns := [], harness := (true, "7afa72e77ad9c3cc50374d4653824f183cd1c3c2c84dabbe997dbc5937bc1c10"), looks := false }, kinds := [], alts := [], laidByText := true, laidKinds := [.data, .data], laidTests := true, laidLooks := .later }
def AuditCutUptoCardSaid : Prop := Claim7.holds Tryd.pinned (.plain (OpenSpec.upto auditCutSpec)) auditCutUptoCard
end Rows
end Go.Proofs.YtmpefofifbehjabDoor
