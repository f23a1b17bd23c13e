/-
  DERIVED. GIVEN WITH THE SEED: THE CARDS: each row of YtkkibmofmdkhbaaDoorRows.lean that lists a variable, with what it lists TIED to the program's text (the seventh form; the later family's looks); each row that meets fmt, with fmt's text TOLD by the authors' own Lean function (tested against real Go, not proved from fmt's source: count such statements apart). THE CARD IS WHAT COUNTS. Prove the row's statement (the work); the ties are given (YtkkibmofmdkhbaaDoorTie.lean); close each card by the builder's one call (the guide's Derived/Test/ToyasCard.lean, 'card_holds'). Laid BY PROGRAM, IN A SANDBOX (cutbox-door.mjs). By AI agents, Wed Nov 11 2026. No macro, syntax, notation, axiom, sorry.
-/
import Derived.Test.YtkkibmofmdkhbaaDoorRows
import GoSem.ClaimSeven
namespace Go.Proofs.YtkkibmofmdkhbaaDoor
namespace Rows

/-- THE TIED CARD OF 'conclavelaw.ShaSums'. -/
def shaSumsCard : Claim7 := { stood := { row := shaSumsRow, standIns := [], harness := (true, "e41ebc3f4be6f9c4ad45b993bc4a5395338bec53cc07e83faee45a903215774e"), looks := false }, kinds := [], alts := [], laidByText := true, laidKinds := [.data], laidTests := true, laidLooks := .later }
def ShaSumsCardSaid : Prop := Claim7.holds Tryd.pinned (.plain (OpenSpec.ofChange shaSumsSpec)) shaSumsCard

/-- THE TIED CARD OF 'conclavelaw.ShaMacs'. -/
def shaMacsCard : Claim7 := { stood := { row := shaMacsRow, standIns := [], harness := (true, "e41ebc3f4be6f9c4ad45b993bc4a5395338bec53cc07e83faee45a903215774e"), looks := false }, kinds := [], alts := [], laidByText := true, laidKinds := [.data], laidTests := true, laidLooks := .later }
def ShaMacsCardSaid : Prop := Claim7.holds Tryd.pinned (.plain (OpenSpec.ofChange shaMacsSpec)) shaMacsCard

/-- THE TIED CARD OF 'conclavelaw.ShaDraws'. -/
def shaDrawsCard : Claim7 := { stood := { row := shaDrawsRow, standIns := [], harness := (true, "e41ebc3f4be6f9c4ad45b993bc4a5395338bec53cc07e83faee45a903215774e"), looks := false }, kinds := [], alts := [], laidByText := true, laidKinds := [.data], laidTests := true, laidLooks := .later }
def ShaDrawsCardSaid : Prop := Claim7.holds Tryd.pinned (.plain (OpenSpec.ofChange shaDrawsSpec)) shaDrawsCard

/-- THE TIED CARD OF 'conclavekeep.SumLong'. -/
def sumLongCard : Claim7 := { stood := { row := sumLongRow, standIns := [], harness := (true, "e41ebc3f4be6f9c4ad45b993bc4a5395338bec53cc07e83faee45a903215774e"), looks := false }, kinds := [], alts := [], laidByText := true, laidKinds := [.data], laidTests := true, laidLooks := .later }
def SumLongCardSaid : Prop := Claim7.holds Tryd.pinned (.plain (OpenSpec.ofChange sumLongSpec)) sumLongCard

/-- THE TIED CARD OF 'conclavekeep.MacKey'. -/
def macKeyCard : Claim7 := { stood := { row := macKeyRow, standIns := [], harness := (true, "e41ebc3f4be6f9c4ad45b993bc4a5395338bec53cc07e83faee45a903215774e"), looks := false }, kinds := [], alts := [], laidByText := true, laidKinds := [.data], laidTests := true, laidLooks := .later }
def MacKeyCardSaid : Prop := Claim7.holds Tryd.pinned (.plain (OpenSpec.ofChange macKeySpec)) macKeyCard

/-- THE SECOND FORM's CARD OF 'conclavelaw.ShaSums'. -/
def shaSumsUptoCard : Claim7 := { stood := { row := shaSumsUptoRow, standIns := [], harness := (true, "e41ebc3f4be6f9c4ad45b993bc4a5395338bec53cc07e83faee45a903215774e"), looks := false }, kinds := [], alts := [], laidByText := true, laidKinds := [.data], laidTests := true, laidLooks := .later }
def ShaSumsUptoCardSaid : Prop := Claim7.holds Tryd.pinned (.plain (OpenSpec.upto shaSumsSpec)) shaSumsUptoCard

/-- THE SECOND FORM's CARD OF 'conclavelaw.ShaMacs'. -/
def shaMacsUptoCard : Claim7 := { stood := { row := shaMacsUptoRow, standIns := [], harness := (true, "e41ebc3f4be6f9c4ad45b993bc4a5395338bec53cc07e83faee45a903215774e"), looks := false }, kinds := [], alts := [], laidByText := true, laidKinds := [.data], laidTests := true, laidLooks := .later }
def ShaMacsUptoCardSaid : Prop := Claim7.holds Tryd.pinned (.plain (OpenSpec.upto shaMacsSpec)) shaMacsUptoCard

/-- THE SECOND FORM's CARD OF 'conclavelaw.ShaDraws'. -/
def shaDrawsUptoCard : Claim7 := { stood := { row := shaDrawsUptoRow, standIns := [], harness := (true, "e41ebc3f4be6f9c4ad45b993bc4a5395338bec53cc07e83faee45a903215774e"), looks := false }, kinds := [], alts := [], laidByText := true, laidKinds := [.data], laidTests := true, laidLooks := .later }
def ShaDrawsUptoCardSaid : Prop := Claim7.holds Tryd.pinned (.plain (OpenSpec.upto shaDrawsSpec)) shaDrawsUptoCard

/-- THE SECOND FORM's CARD OF 'conclavekeep.SumLong'. -/
def sumLongUptoCard : Claim7 := { stood := { row := sumLongUptoRow, standIns := [], harness := (true, "e41ebc3f4be6f9c4ad45b993bc4a5395338bec53cc07e83faee45a903215774e"), looks := false }, kinds := [], alts := [], laidByText := true, laidKinds := [.data], laidTests := true, laidLooks := .later }
def SumLongUptoCardSaid : Prop := Claim7.holds Tryd.pinned (.plain (OpenSpec.upto sumLongSpec)) sumLongUptoCard

/-- THE SECOND FORM's CARD OF 'conclavekeep.MacKey'. -/
def macKeyUptoCard : Claim7 := { stood := { row := macKeyUptoRow, standIns := [], harness := (true, "e41ebc3f4be6f9c4ad45b993bc4a5395338bec53cc07e83faee45a903215774e"), looks := false }, kinds := [], alts := [], laidByText := true, laidKinds := [.data], laidTests := true, laidLooks := .later }
def MacKeyUptoCardSaid : Prop := Claim7.holds Tryd.pinned (.plain (OpenSpec.upto macKeySpec)) macKeyUptoCard
end Rows
end Go.Proofs.YtkkibmofmdkhbaaDoor
