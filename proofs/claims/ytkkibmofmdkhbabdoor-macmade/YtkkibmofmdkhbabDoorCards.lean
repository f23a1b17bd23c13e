/-
  DERIVED. GIVEN WITH THE SEED: THE CARDS: each row of YtkkibmofmdkhbabDoorRows.lean that lists a variable, with what it lists TIED to the program's text (the seventh form; the later family's looks); each row that meets fmt, with fmt's text TOLD by the authors' own Lean function (tested against real Go, not proved from fmt's source: count such statements apart). THE CARD IS WHAT COUNTS. Prove the row's statement (the work); the ties are given (YtkkibmofmdkhbabDoorTie.lean); close each card by the builder's one call (the guide's Derived/Test/ToyasCard.lean, 'card_holds'). Laid BY PROGRAM, IN A SANDBOX (cutbox-door.mjs). By AI agents, Wed Nov 11 2026. No macro, syntax, notation, axiom, sorry.
-/
import Derived.Test.YtkkibmofmdkhbabDoorRows
import GoSem.ClaimSeven
namespace Go.Proofs.YtkkibmofmdkhbabDoor
namespace Rows

/-- THE TIED CARD OF 'conclavekeep.MacMade'. -/
def macMadeCard : Claim7 := { stood := { row := macMadeRow, standIns := [], harness := (true, "fce7e4b94b28533ef005c44a352777487969dcbc60b3359a65c0c8153aa14108"), looks := false }, kinds := [], alts := [], laidByText := true, laidKinds := [.data], laidTests := true, laidLooks := .later }
def MacMadeCardSaid : Prop := Claim7.holds Tryd.pinned (.plain (OpenSpec.ofChange macMadeSpec)) macMadeCard

/-- THE TIED CARD OF 'conclavekeep.DrawMore'. -/
def drawMoreCard : Claim7 := { stood := { row := drawMoreRow, standIns := [], harness := (true, "fce7e4b94b28533ef005c44a352777487969dcbc60b3359a65c0c8153aa14108"), looks := false }, kinds := [], alts := [], laidByText := true, laidKinds := [.data], laidTests := true, laidLooks := .later }
def DrawMoreCardSaid : Prop := Claim7.holds Tryd.pinned (.plain (OpenSpec.ofChange drawMoreSpec)) drawMoreCard

/-- THE TIED CARD OF 'conclavekeep.DrawMade'. -/
def drawMadeCard : Claim7 := { stood := { row := drawMadeRow, standIns := [], harness := (true, "fce7e4b94b28533ef005c44a352777487969dcbc60b3359a65c0c8153aa14108"), looks := false }, kinds := [], alts := [], laidByText := true, laidKinds := [.data], laidTests := true, laidLooks := .later }
def DrawMadeCardSaid : Prop := Claim7.holds Tryd.pinned (.plain (OpenSpec.ofChange drawMadeSpec)) drawMadeCard

/-- THE TIED CARD OF 'conclavekeep.KnownSums'. -/
def knownSumsCard : Claim7 := { stood := { row := knownSumsRow, standIns := [], harness := (true, "fce7e4b94b28533ef005c44a352777487969dcbc60b3359a65c0c8153aa14108"), looks := false }, kinds := [], alts := [], laidByText := true, laidKinds := [.data], laidTests := true, laidLooks := .later }
def KnownSumsCardSaid : Prop := Claim7.holds Tryd.pinned (.plain (OpenSpec.ofChange knownSumsSpec)) knownSumsCard

/-- THE TIED CARD OF 'conclavekeep.KnownMac'. -/
def knownMacCard : Claim7 := { stood := { row := knownMacRow, standIns := [], harness := (true, "fce7e4b94b28533ef005c44a352777487969dcbc60b3359a65c0c8153aa14108"), looks := false }, kinds := [], alts := [], laidByText := true, laidKinds := [.data], laidTests := true, laidLooks := .later }
def KnownMacCardSaid : Prop := Claim7.holds Tryd.pinned (.plain (OpenSpec.ofChange knownMacSpec)) knownMacCard

/-- THE SECOND FORM's CARD OF 'conclavekeep.MacMade'. -/
def macMadeUptoCard : Claim7 := { stood := { row := macMadeUptoRow, standIns := [], harness := (true, "fce7e4b94b28533ef005c44a352777487969dcbc60b3359a65c0c8153aa14108"), looks := false }, kinds := [], alts := [], laidByText := true, laidKinds := [.data], laidTests := true, laidLooks := .later }
def MacMadeUptoCardSaid : Prop := Claim7.holds Tryd.pinned (.plain (OpenSpec.upto macMadeSpec)) macMadeUptoCard

/-- THE SECOND FORM's CARD OF 'conclavekeep.DrawMore'. -/
def drawMoreUptoCard : Claim7 := { stood := { row := drawMoreUptoRow, standIns := [], harness := (true, "fce7e4b94b28533ef005c44a352777487969dcbc60b3359a65c0c8153aa14108"), looks := false }, kinds := [], alts := [], laidByText := true, laidKinds := [.data], laidTests := true, laidLooks := .later }
def DrawMoreUptoCardSaid : Prop := Claim7.holds Tryd.pinned (.plain (OpenSpec.upto drawMoreSpec)) drawMoreUptoCard

/-- THE SECOND FORM's CARD OF 'conclavekeep.DrawMade'. -/
def drawMadeUptoCard : Claim7 := { stood := { row := drawMadeUptoRow, standIns := [], harness := (true, "fce7e4b94b28533ef005c44a352777487969dcbc60b3359a65c0c8153aa14108"), looks := false }, kinds := [], alts := [], laidByText := true, laidKinds := [.data], laidTests := true, laidLooks := .later }
def DrawMadeUptoCardSaid : Prop := Claim7.holds Tryd.pinned (.plain (OpenSpec.upto drawMadeSpec)) drawMadeUptoCard

/-- THE SECOND FORM's CARD OF 'conclavekeep.KnownSums'. -/
def knownSumsUptoCard : Claim7 := { stood := { row := knownSumsUptoRow, standIns := [], harness := (true, "fce7e4b94b28533ef005c44a352777487969dcbc60b3359a65c0c8153aa14108"), looks := false }, kinds := [], alts := [], laidByText := true, laidKinds := [.data], laidTests := true, laidLooks := .later }
def KnownSumsUptoCardSaid : Prop := Claim7.holds Tryd.pinned (.plain (OpenSpec.upto knownSumsSpec)) knownSumsUptoCard

/-- THE SECOND FORM's CARD OF 'conclavekeep.KnownMac'. -/
def knownMacUptoCard : Claim7 := { stood := { row := knownMacUptoRow, standIns := [], harness := (true, "fce7e4b94b28533ef005c44a352777487969dcbc60b3359a65c0c8153aa14108"), looks := false }, kinds := [], alts := [], laidByText := true, laidKinds := [.data], laidTests := true, laidLooks := .later }
def KnownMacUptoCardSaid : Prop := Claim7.holds Tryd.pinned (.plain (OpenSpec.upto knownMacSpec)) knownMacUptoCard
end Rows
end Go.Proofs.YtkkibmofmdkhbabDoor
