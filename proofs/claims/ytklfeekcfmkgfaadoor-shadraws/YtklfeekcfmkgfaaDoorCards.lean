/-
  DERIVED. GIVEN WITH THE SEED: THE CARDS: each row of YtklfeekcfmkgfaaDoorRows.lean that lists a variable, with what it lists TIED to the program's text (the seventh form; the later family's looks); each row that meets fmt, with fmt's text TOLD by the authors' own Lean function (tested against real Go, not proved from fmt's source: count such statements apart). THE CARD IS WHAT COUNTS. Prove the row's statement (the work); the ties are given (YtklfeekcfmkgfaaDoorTie.lean); close each card by the builder's one call (the guide's Derived/Test/ToyasCard.lean, 'card_holds'). Laid BY PROGRAM, IN A SANDBOX (cutbox-door.mjs). By AI agents, Wed Nov 11 2026. No macro, syntax, notation, axiom, sorry.
-/
import Derived.Test.YtklfeekcfmkgfaaDoorRows
import GoSem.ClaimSeven
namespace Go.Proofs.YtklfeekcfmkgfaaDoor
namespace Rows

/-- THE TIED CARD OF 'conclavelaw.ShaSums'. -/
def shaSumsCard : Claim7 := { stood := { row := shaSumsRow, standIns := [], harness := (true, "002a09f28ba7ee95354341587f86e5874f564ad7748e05e71df585841888299b"), looks := false }, kinds := [], alts := [], laidByText := true, laidKinds := [.data], laidTests := true, laidLooks := .later }
def ShaSumsCardSaid : Prop := Claim7.holds Tryd.pinned (.plain (OpenSpec.ofChange shaSumsSpec)) shaSumsCard

/-- THE TIED CARD OF 'conclavelaw.ShaMacs'. -/
def shaMacsCard : Claim7 := { stood := { row := shaMacsRow, standIns := [], harness := (true, "002a09f28ba7ee95354341587f86e5874f564ad7748e05e71df585841888299b"), looks := false }, kinds := [], alts := [], laidByText := true, laidKinds := [.data], laidTests := true, laidLooks := .later }
def ShaMacsCardSaid : Prop := Claim7.holds Tryd.pinned (.plain (OpenSpec.ofChange shaMacsSpec)) shaMacsCard

/-- THE TIED CARD OF 'conclavelaw.ShaDraws'. -/
def shaDrawsCard : Claim7 := { stood := { row := shaDrawsRow, standIns := [], harness := (true, "002a09f28ba7ee95354341587f86e5874f564ad7748e05e71df585841888299b"), looks := false }, kinds := [], alts := [], laidByText := true, laidKinds := [.data], laidTests := true, laidLooks := .later }
def ShaDrawsCardSaid : Prop := Claim7.holds Tryd.pinned (.plain (OpenSpec.ofChange shaDrawsSpec)) shaDrawsCard

/-- THE TIED CARD OF 'conclavelaw.ChaBlocks'. -/
def chaBlocksCard : Claim7 := { stood := { row := chaBlocksRow, standIns := [], harness := (true, "002a09f28ba7ee95354341587f86e5874f564ad7748e05e71df585841888299b"), looks := false }, kinds := [], alts := [], laidByText := true, laidKinds := [.data], laidTests := true, laidLooks := .later }
def ChaBlocksCardSaid : Prop := Claim7.holds Tryd.pinned (.plain (OpenSpec.ofChange chaBlocksSpec)) chaBlocksCard

/-- THE TIED CARD OF 'conclavelaw.ChaMixes'. -/
def chaMixesCard : Claim7 := { stood := { row := chaMixesRow, standIns := [], harness := (true, "002a09f28ba7ee95354341587f86e5874f564ad7748e05e71df585841888299b"), looks := false }, kinds := [], alts := [], laidByText := true, laidKinds := [.data], laidTests := true, laidLooks := .later }
def ChaMixesCardSaid : Prop := Claim7.holds Tryd.pinned (.plain (OpenSpec.ofChange chaMixesSpec)) chaMixesCard

/-- THE TIED CARD OF 'conclavekeep.MixTwice'. -/
def mixTwiceCard : Claim7 := { stood := { row := mixTwiceRow, standIns := [], harness := (true, "002a09f28ba7ee95354341587f86e5874f564ad7748e05e71df585841888299b"), looks := false }, kinds := [], alts := [], laidByText := true, laidKinds := [.data], laidTests := true, laidLooks := .later }
def MixTwiceCardSaid : Prop := Claim7.holds Tryd.pinned (.plain (OpenSpec.ofChange mixTwiceSpec)) mixTwiceCard

/-- THE SECOND FORM's CARD OF 'conclavelaw.ShaSums'. -/
def shaSumsUptoCard : Claim7 := { stood := { row := shaSumsUptoRow, standIns := [], harness := (true, "002a09f28ba7ee95354341587f86e5874f564ad7748e05e71df585841888299b"), looks := false }, kinds := [], alts := [], laidByText := true, laidKinds := [.data], laidTests := true, laidLooks := .later }
def ShaSumsUptoCardSaid : Prop := Claim7.holds Tryd.pinned (.plain (OpenSpec.upto shaSumsSpec)) shaSumsUptoCard

/-- THE SECOND FORM's CARD OF 'conclavelaw.ShaMacs'. -/
def shaMacsUptoCard : Claim7 := { stood := { row := shaMacsUptoRow, standIns := [], harness := (true, "002a09f28ba7ee95354341587f86e5874f564ad7748e05e71df585841888299b"), looks := false }, kinds := [], alts := [], laidByText := true, laidKinds := [.data], laidTests := true, laidLooks := .later }
def ShaMacsUptoCardSaid : Prop := Claim7.holds Tryd.pinned (.plain (OpenSpec.upto shaMacsSpec)) shaMacsUptoCard

/-- THE SECOND FORM's CARD OF 'conclavelaw.ShaDraws'. -/
def shaDrawsUptoCard : Claim7 := { stood := { row := shaDrawsUptoRow, standIns := [], harness := (true, "002a09f28ba7ee95354341587f86e5874f564ad7748e05e71df585841888299b"), looks := false }, kinds := [], alts := [], laidByText := true, laidKinds := [.data], laidTests := true, laidLooks := .later }
def ShaDrawsUptoCardSaid : Prop := Claim7.holds Tryd.pinned (.plain (OpenSpec.upto shaDrawsSpec)) shaDrawsUptoCard

/-- THE SECOND FORM's CARD OF 'conclavelaw.ChaBlocks'. -/
def chaBlocksUptoCard : Claim7 := { stood := { row := chaBlocksUptoRow, standIns := [], harness := (true, "002a09f28ba7ee95354341587f86e5874f564ad7748e05e71df585841888299b"), looks := false }, kinds := [], alts := [], laidByText := true, laidKinds := [.data], laidTests := true, laidLooks := .later }
def ChaBlocksUptoCardSaid : Prop := Claim7.holds Tryd.pinned (.plain (OpenSpec.upto chaBlocksSpec)) chaBlocksUptoCard

/-- THE SECOND FORM's CARD OF 'conclavelaw.ChaMixes'. -/
def chaMixesUptoCard : Claim7 := { stood := { row := chaMixesUptoRow, standIns := [], harness := (true, "002a09f28ba7ee95354341587f86e5874f564ad7748e05e71df585841888299b"), looks := false }, kinds := [], alts := [], laidByText := true, laidKinds := [.data], laidTests := true, laidLooks := .later }
def ChaMixesUptoCardSaid : Prop := Claim7.holds Tryd.pinned (.plain (OpenSpec.upto chaMixesSpec)) chaMixesUptoCard

/-- THE SECOND FORM's CARD OF 'conclavekeep.MixTwice'. -/
def mixTwiceUptoCard : Claim7 := { stood := { row := mixTwiceUptoRow, standIns := [], harness := (true, "002a09f28ba7ee95354341587f86e5874f564ad7748e05e71df585841888299b"), looks := false }, kinds := [], alts := [], laidByText := true, laidKinds := [.data], laidTests := true, laidLooks := .later }
def MixTwiceUptoCardSaid : Prop := Claim7.holds Tryd.pinned (.plain (OpenSpec.upto mixTwiceSpec)) mixTwiceUptoCard
end Rows
end Go.Proofs.YtklfeekcfmkgfaaDoor
