/-
  DERIVED. GIVEN WITH THE SEED: THE CARDS: each row of YtjlboglcffdnoabDoorRows.lean that lists a variable, with what it lists TIED to the program's text (the seventh form; the later family's looks); each row that meets fmt, with fmt's text TOLD by the authors' own Lean function (tested against real Go, not proved from fmt's source: count such statements apart). THE CARD IS WHAT COUNTS. Prove the row's statement (the work); the ties are given (YtjlboglcffdnoabDoorTie.lean); close each card by the builder's one call (the guide's Derived/Test/ToyasCard.lean, 'card_holds'). Laid BY PROGRAM, IN A SANDBOX (cutbox-door.mjs). By AI agents, Wed Nov 11 2026. No macro, syntax, notation, axiom, sorry.
-/
import Derived.Test.YtjlboglcffdnoabDoorRows
import GoSem.ClaimSeven
namespace Go.Proofs.YtjlboglcffdnoabDoor
namespace Rows

/-- THE TIED CARD OF 'conclavekeep.CommandBack'. -/
def commandBackCard : Claim7 := { stood := { row := commandBackRow, standIns := [], harness := (true, "7046816e9f6c0b9966c6ac099e509bd0906d4d949b493b9042ea066a19547e83"), looks := false }, kinds := [], alts := [], laidByText := true, laidKinds := [.data], laidTests := true, laidLooks := .later }
def CommandBackCardSaid : Prop := Claim7.holds Tryd.pinned (.plain (OpenSpec.ofChange commandBackSpec)) commandBackCard

/-- THE TIED CARD OF 'conclavekeep.CommandFixed'. -/
def commandFixedCard : Claim7 := { stood := { row := commandFixedRow, standIns := [], harness := (true, "7046816e9f6c0b9966c6ac099e509bd0906d4d949b493b9042ea066a19547e83"), looks := false }, kinds := [], alts := [], laidByText := true, laidKinds := [.data], laidTests := true, laidLooks := .later }
def CommandFixedCardSaid : Prop := Claim7.holds Tryd.pinned (.plain (OpenSpec.ofChange commandFixedSpec)) commandFixedCard

/-- THE TIED CARD OF 'conclavekeep.TokenBack'. -/
def tokenBackCard : Claim7 := { stood := { row := tokenBackRow, standIns := [], harness := (true, "7046816e9f6c0b9966c6ac099e509bd0906d4d949b493b9042ea066a19547e83"), looks := false }, kinds := [], alts := [], laidByText := true, laidKinds := [.data], laidTests := true, laidLooks := .later }
def TokenBackCardSaid : Prop := Claim7.holds Tryd.pinned (.plain (OpenSpec.ofChange tokenBackSpec)) tokenBackCard

/-- THE TIED CARD OF 'conclavekeep.TokenFixed'. -/
def tokenFixedCard : Claim7 := { stood := { row := tokenFixedRow, standIns := [], harness := (true, "7046816e9f6c0b9966c6ac099e509bd0906d4d949b493b9042ea066a19547e83"), looks := false }, kinds := [], alts := [], laidByText := true, laidKinds := [.data], laidTests := true, laidLooks := .later }
def TokenFixedCardSaid : Prop := Claim7.holds Tryd.pinned (.plain (OpenSpec.ofChange tokenFixedSpec)) tokenFixedCard

/-- THE TIED CARD OF 'conclavekeep.AllowRight'. -/
def allowRightCard : Claim7 := { stood := { row := allowRightRow, standIns := [], harness := (true, "7046816e9f6c0b9966c6ac099e509bd0906d4d949b493b9042ea066a19547e83"), looks := false }, kinds := [], alts := [], laidByText := true, laidKinds := [.data], laidTests := true, laidLooks := .later }
def AllowRightCardSaid : Prop := Claim7.holds Tryd.pinned (.plain (OpenSpec.ofChange allowRightSpec)) allowRightCard

/-- THE TIED CARD OF 'conclavekeep.AllowMore'. -/
def allowMoreCard : Claim7 := { stood := { row := allowMoreRow, standIns := [], harness := (true, "7046816e9f6c0b9966c6ac099e509bd0906d4d949b493b9042ea066a19547e83"), looks := false }, kinds := [], alts := [], laidByText := true, laidKinds := [.data], laidTests := true, laidLooks := .later }
def AllowMoreCardSaid : Prop := Claim7.holds Tryd.pinned (.plain (OpenSpec.ofChange allowMoreSpec)) allowMoreCard

/-- THE SECOND FORM's CARD OF 'conclavekeep.CommandBack'. -/
def commandBackUptoCard : Claim7 := { stood := { row := commandBackUptoRow, standIns := [], harness := (true, "7046816e9f6c0b9966c6ac099e509bd0906d4d949b493b9042ea066a19547e83"), looks := false }, kinds := [], alts := [], laidByText := true, laidKinds := [.data], laidTests := true, laidLooks := .later }
def CommandBackUptoCardSaid : Prop := Claim7.holds Tryd.pinned (.plain (OpenSpec.upto commandBackSpec)) commandBackUptoCard

/-- THE SECOND FORM's CARD OF 'conclavekeep.CommandFixed'. -/
def commandFixedUptoCard : Claim7 := { stood := { row := commandFixedUptoRow, standIns := [], harness := (true, "7046816e9f6c0b9966c6ac099e509bd0906d4d949b493b9042ea066a19547e83"), looks := false }, kinds := [], alts := [], laidByText := true, laidKinds := [.data], laidTests := true, laidLooks := .later }
def CommandFixedUptoCardSaid : Prop := Claim7.holds Tryd.pinned (.plain (OpenSpec.upto commandFixedSpec)) commandFixedUptoCard

/-- THE SECOND FORM's CARD OF 'conclavekeep.TokenBack'. -/
def tokenBackUptoCard : Claim7 := { stood := { row := tokenBackUptoRow, standIns := [], harness := (true, "7046816e9f6c0b9966c6ac099e509bd0906d4d949b493b9042ea066a19547e83"), looks := false }, kinds := [], alts := [], laidByText := true, laidKinds := [.data], laidTests := true, laidLooks := .later }
def TokenBackUptoCardSaid : Prop := Claim7.holds Tryd.pinned (.plain (OpenSpec.upto tokenBackSpec)) tokenBackUptoCard

/-- THE SECOND FORM's CARD OF 'conclavekeep.TokenFixed'. -/
def tokenFixedUptoCard : Claim7 := { stood := { row := tokenFixedUptoRow, standIns := [], harness := (true, "7046816e9f6c0b9966c6ac099e509bd0906d4d949b493b9042ea066a19547e83"), looks := false }, kinds := [], alts := [], laidByText := true, laidKinds := [.data], laidTests := true, laidLooks := .later }
def TokenFixedUptoCardSaid : Prop := Claim7.holds Tryd.pinned (.plain (OpenSpec.upto tokenFixedSpec)) tokenFixedUptoCard

/-- THE SECOND FORM's CARD OF 'conclavekeep.AllowRight'. -/
def allowRightUptoCard : Claim7 := { stood := { row := allowRightUptoRow, standIns := [], harness := (true, "7046816e9f6c0b9966c6ac099e509bd0906d4d949b493b9042ea066a19547e83"), looks := false }, kinds := [], alts := [], laidByText := true, laidKinds := [.data], laidTests := true, laidLooks := .later }
def AllowRightUptoCardSaid : Prop := Claim7.holds Tryd.pinned (.plain (OpenSpec.upto allowRightSpec)) allowRightUptoCard

/-- THE SECOND FORM's CARD OF 'conclavekeep.AllowMore'. -/
def allowMoreUptoCard : Claim7 := { stood := { row := allowMoreUptoRow, standIns := [], harness := (true, "7046816e9f6c0b9966c6ac099e509bd0906d4d949b493b9042ea066a19547e83"), looks := false }, kinds := [], alts := [], laidByText := true, laidKinds := [.data], laidTests := true, laidLooks := .later }
def AllowMoreUptoCardSaid : Prop := Claim7.holds Tryd.pinned (.plain (OpenSpec.upto allowMoreSpec)) allowMoreUptoCard
end Rows
end Go.Proofs.YtjlboglcffdnoabDoor
