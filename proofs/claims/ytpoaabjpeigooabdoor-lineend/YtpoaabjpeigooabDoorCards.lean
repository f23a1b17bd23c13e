/-
  DERIVED. GIVEN WITH THE SEED: THE CARDS: each row of YtpoaabjpeigooabDoorRows.lean that lists a variable, with what it lists TIED to the program's text (the seventh form; the later family's looks); each row that meets fmt, with fmt's text TOLD by the authors' own Lean function (tested against real Go, not proved from fmt's source: count such statements apart). THE CARD IS WHAT COUNTS. Prove the row's statement (the work); the ties are given (YtpoaabjpeigooabDoorTie.lean); close each card by the builder's one call (the guide's Derived/Test/ToyasCard.lean, 'card_holds'). Laid BY PROGRAM, IN A SANDBOX (cutbox-door.mjs). By AI agents, Wed Nov 11 2026. No macro, syntax, notation, axiom, sorry.
-/
import Derived.Test.YtpoaabjpeigooabDoorRows
import GoSem.ClaimSeven
namespace Go.Proofs.YtpoaabjpeigooabDoor
namespace Rows

/-- THE TIED CARD OF 'conclavekeep.LineTurns'. -/
def lineTurnsCard : Claim7 := { stood := { row := lineTurnsRow, standIns := [], harness := (true, "39be5583094824a506b369b93d81e5500e8358ced45141d5abc2dc3fc3481a5f"), looks := false }, kinds := [], alts := [], laidByText := true, laidKinds := [.data], laidTests := true, laidLooks := .later }
def LineTurnsCardSaid : Prop := Claim7.holds Tryd.pinned (.plain (OpenSpec.ofChange lineTurnsSpec)) lineTurnsCard

/-- THE TIED CARD OF 'conclavekeep.LineFixed'. -/
def lineFixedCard : Claim7 := { stood := { row := lineFixedRow, standIns := [], harness := (true, "39be5583094824a506b369b93d81e5500e8358ced45141d5abc2dc3fc3481a5f"), looks := false }, kinds := [], alts := [], laidByText := true, laidKinds := [.data], laidTests := true, laidLooks := .later }
def LineFixedCardSaid : Prop := Claim7.holds Tryd.pinned (.plain (OpenSpec.ofChange lineFixedSpec)) lineFixedCard

/-- THE TIED CARD OF 'conclavekeep.LineEnd'. -/
def lineEndCard : Claim7 := { stood := { row := lineEndRow, standIns := [], harness := (true, "39be5583094824a506b369b93d81e5500e8358ced45141d5abc2dc3fc3481a5f"), looks := false }, kinds := [], alts := [], laidByText := true, laidKinds := [.data], laidTests := true, laidLooks := .later }
def LineEndCardSaid : Prop := Claim7.holds Tryd.pinned (.plain (OpenSpec.ofChange lineEndSpec)) lineEndCard

/-- THE TIED CARD OF 'conclavekeep.LineGap'. -/
def lineGapCard : Claim7 := { stood := { row := lineGapRow, standIns := [], harness := (true, "39be5583094824a506b369b93d81e5500e8358ced45141d5abc2dc3fc3481a5f"), looks := false }, kinds := [], alts := [], laidByText := true, laidKinds := [.data], laidTests := true, laidLooks := .later }
def LineGapCardSaid : Prop := Claim7.holds Tryd.pinned (.plain (OpenSpec.ofChange lineGapSpec)) lineGapCard

/-- THE TIED CARD OF 'conclavekeep.LineWays'. -/
def lineWaysCard : Claim7 := { stood := { row := lineWaysRow, standIns := [], harness := (true, "39be5583094824a506b369b93d81e5500e8358ced45141d5abc2dc3fc3481a5f"), looks := false }, kinds := [], alts := [], laidByText := true, laidKinds := [.data], laidTests := true, laidLooks := .later }
def LineWaysCardSaid : Prop := Claim7.holds Tryd.pinned (.plain (OpenSpec.ofChange lineWaysSpec)) lineWaysCard

/-- THE SECOND FORM's CARD OF 'conclavekeep.LineTurns'. -/
def lineTurnsUptoCard : Claim7 := { stood := { row := lineTurnsUptoRow, standIns := [], harness := (true, "39be5583094824a506b369b93d81e5500e8358ced45141d5abc2dc3fc3481a5f"), looks := false }, kinds := [], alts := [], laidByText := true, laidKinds := [.data], laidTests := true, laidLooks := .later }
def LineTurnsUptoCardSaid : Prop := Claim7.holds Tryd.pinned (.plain (OpenSpec.upto lineTurnsSpec)) lineTurnsUptoCard

/-- THE SECOND FORM's CARD OF 'conclavekeep.LineFixed'. -/
def lineFixedUptoCard : Claim7 := { stood := { row := lineFixedUptoRow, standIns := [], harness := (true, "39be5583094824a506b369b93d81e5500e8358ced45141d5abc2dc3fc3481a5f"), looks := false }, kinds := [], alts := [], laidByText := true, laidKinds := [.data], laidTests := true, laidLooks := .later }
def LineFixedUptoCardSaid : Prop := Claim7.holds Tryd.pinned (.plain (OpenSpec.upto lineFixedSpec)) lineFixedUptoCard

/-- THE SECOND FORM's CARD OF 'conclavekeep.LineEnd'. -/
def lineEndUptoCard : Claim7 := { stood := { row := lineEndUptoRow, standIns := [], harness := (true, "39be5583094824a506b369b93d81e5500e8358ced45141d5abc2dc3fc3481a5f"), looks := false }, kinds := [], alts := [], laidByText := true, laidKinds := [.data], laidTests := true, laidLooks := .later }
def LineEndUptoCardSaid : Prop := Claim7.holds Tryd.pinned (.plain (OpenSpec.upto lineEndSpec)) lineEndUptoCard

/-- THE SECOND FORM's CARD OF 'conclavekeep.LineGap'. -/
def lineGapUptoCard : Claim7 := { stood := { row := lineGapUptoRow, standIns := [], harness := (true, "39be5583094824a506b369b93d81e5500e8358ced45141d5abc2dc3fc3481a5f"), looks := false }, kinds := [], alts := [], laidByText := true, laidKinds := [.data], laidTests := true, laidLooks := .later }
def LineGapUptoCardSaid : Prop := Claim7.holds Tryd.pinned (.plain (OpenSpec.upto lineGapSpec)) lineGapUptoCard

/-- THE SECOND FORM's CARD OF 'conclavekeep.LineWays'. -/
def lineWaysUptoCard : Claim7 := { stood := { row := lineWaysUptoRow, standIns := [], harness := (true, "39be5583094824a506b369b93d81e5500e8358ced45141d5abc2dc3fc3481a5f"), looks := false }, kinds := [], alts := [], laidByText := true, laidKinds := [.data], laidTests := true, laidLooks := .later }
def LineWaysUptoCardSaid : Prop := Claim7.holds Tryd.pinned (.plain (OpenSpec.upto lineWaysSpec)) lineWaysUptoCard
end Rows
end Go.Proofs.YtpoaabjpeigooabDoor
