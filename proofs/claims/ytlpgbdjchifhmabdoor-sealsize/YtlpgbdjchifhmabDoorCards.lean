/-
  DERIVED. GIVEN WITH THE SEED: THE CARDS: each row of YtlpgbdjchifhmabDoorRows.lean that lists a variable, with what it lists TIED to the program's text (the seventh form; the later family's looks); each row that meets fmt, with fmt's text TOLD by the authors' own Lean function (tested against real Go, not proved from fmt's source: count such statements apart). THE CARD IS WHAT COUNTS. Prove the row's statement (the work); the ties are given (YtlpgbdjchifhmabDoorTie.lean); close each card by the builder's one call (the guide's Derived/Test/ToyasCard.lean, 'card_holds'). Laid BY PROGRAM, IN A SANDBOX (cutbox-door.mjs). By AI agents, Wed Nov 11 2026. No macro, syntax, notation, axiom, sorry.
-/
import Derived.Test.YtlpgbdjchifhmabDoorRows
import GoSem.ClaimSeven
namespace Go.Proofs.YtlpgbdjchifhmabDoor
namespace Rows

/-- THE TIED CARD OF 'conclavekeep.SealSize'. -/
def sealSizeCard : Claim7 := { stood := { row := sealSizeRow, standIns := [], harness := (true, "2130016038e69b5b5f6dfda0aeadfa47b6b919efc82fdcc8c8f4f8cb0d78936b"), looks := false }, kinds := [], alts := [], laidByText := true, laidKinds := [.data], laidTests := true, laidLooks := .later }
def SealSizeCardSaid : Prop := Claim7.holds Tryd.pinned (.plain (OpenSpec.ofChange sealSizeSpec)) sealSizeCard

/-- THE TIED CARD OF 'conclavekeep.SealEmpty'. -/
def sealEmptyCard : Claim7 := { stood := { row := sealEmptyRow, standIns := [], harness := (true, "2130016038e69b5b5f6dfda0aeadfa47b6b919efc82fdcc8c8f4f8cb0d78936b"), looks := false }, kinds := [], alts := [], laidByText := true, laidKinds := [.data], laidTests := true, laidLooks := .later }
def SealEmptyCardSaid : Prop := Claim7.holds Tryd.pinned (.plain (OpenSpec.ofChange sealEmptySpec)) sealEmptyCard

/-- THE SECOND FORM's CARD OF 'conclavekeep.SealSize'. -/
def sealSizeUptoCard : Claim7 := { stood := { row := sealSizeUptoRow, standIns := [], harness := (true, "2130016038e69b5b5f6dfda0aeadfa47b6b919efc82fdcc8c8f4f8cb0d78936b"), looks := false }, kinds := [], alts := [], laidByText := true, laidKinds := [.data], laidTests := true, laidLooks := .later }
def SealSizeUptoCardSaid : Prop := Claim7.holds Tryd.pinned (.plain (OpenSpec.upto sealSizeSpec)) sealSizeUptoCard

/-- THE SECOND FORM's CARD OF 'conclavekeep.SealEmpty'. -/
def sealEmptyUptoCard : Claim7 := { stood := { row := sealEmptyUptoRow, standIns := [], harness := (true, "2130016038e69b5b5f6dfda0aeadfa47b6b919efc82fdcc8c8f4f8cb0d78936b"), looks := false }, kinds := [], alts := [], laidByText := true, laidKinds := [.data], laidTests := true, laidLooks := .later }
def SealEmptyUptoCardSaid : Prop := Claim7.holds Tryd.pinned (.plain (OpenSpec.upto sealEmptySpec)) sealEmptyUptoCard
end Rows
end Go.Proofs.YtlpgbdjchifhmabDoor
