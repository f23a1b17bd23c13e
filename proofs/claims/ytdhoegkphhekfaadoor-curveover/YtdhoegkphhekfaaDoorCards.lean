/-
  DERIVED. GIVEN WITH THE SEED: THE CARDS: each row of YtdhoegkphhekfaaDoorRows.lean that lists a variable, with what it lists TIED to the program's text (the seventh form; the later family's looks); each row that meets fmt, with fmt's text TOLD by the authors' own Lean function (tested against real Go, not proved from fmt's source: count such statements apart). THE CARD IS WHAT COUNTS. Prove the row's statement (the work); the ties are given (YtdhoegkphhekfaaDoorTie.lean); close each card by the builder's one call (the guide's Derived/Test/ToyasCard.lean, 'card_holds'). Laid BY PROGRAM, IN A SANDBOX (cutbox-door.mjs). By AI agents, Wed Nov 11 2026. No macro, syntax, notation, axiom, sorry.
-/
import Derived.Test.YtdhoegkphhekfaaDoorRows
import GoSem.ClaimSeven
namespace Go.Proofs.YtdhoegkphhekfaaDoor
namespace Rows

/-- THE TIED CARD OF 'conclavelaw.CurveShareds'. -/
def curveSharedsCard : Claim7 := { stood := { row := curveSharedsRow, standIns := [], harness := (true, "58dec869ea928bba37a0adf6e5acda374907d12f382480a3015845c446d6be60"), looks := false }, kinds := [], alts := [], laidByText := true, laidKinds := [.data, .wider], laidTests := true, laidLooks := .later }
def CurveSharedsCardSaid : Prop := Claim7.holds Tryd.pinned (.plain (OpenSpec.ofChange curveSharedsSpec)) curveSharedsCard

/-- THE TIED CARD OF 'conclavelaw.CurvePoints'. -/
def curvePointsCard : Claim7 := { stood := { row := curvePointsRow, standIns := [], harness := (true, "58dec869ea928bba37a0adf6e5acda374907d12f382480a3015845c446d6be60"), looks := false }, kinds := [], alts := [], laidByText := true, laidKinds := [.data, .wider], laidTests := true, laidLooks := .later }
def CurvePointsCardSaid : Prop := Claim7.holds Tryd.pinned (.plain (OpenSpec.ofChange curvePointsSpec)) curvePointsCard

/-- THE TIED CARD OF 'conclavekeep.CurveShare'. -/
def curveShareCard : Claim7 := { stood := { row := curveShareRow, standIns := [], harness := (true, "58dec869ea928bba37a0adf6e5acda374907d12f382480a3015845c446d6be60"), looks := false }, kinds := [], alts := [], laidByText := true, laidKinds := [.data, .wider], laidTests := true, laidLooks := .later }
def CurveShareCardSaid : Prop := Claim7.holds Tryd.pinned (.plain (OpenSpec.ofChange curveShareSpec)) curveShareCard

/-- THE TIED CARD OF 'conclavekeep.CurveBits'. -/
def curveBitsCard : Claim7 := { stood := { row := curveBitsRow, standIns := [], harness := (true, "58dec869ea928bba37a0adf6e5acda374907d12f382480a3015845c446d6be60"), looks := false }, kinds := [], alts := [], laidByText := true, laidKinds := [.data, .wider], laidTests := true, laidLooks := .later }
def CurveBitsCardSaid : Prop := Claim7.holds Tryd.pinned (.plain (OpenSpec.ofChange curveBitsSpec)) curveBitsCard

/-- THE TIED CARD OF 'conclavekeep.CurveSmall'. -/
def curveSmallCard : Claim7 := { stood := { row := curveSmallRow, standIns := [], harness := (true, "58dec869ea928bba37a0adf6e5acda374907d12f382480a3015845c446d6be60"), looks := false }, kinds := [], alts := [], laidByText := true, laidKinds := [.data, .wider], laidTests := true, laidLooks := .later }
def CurveSmallCardSaid : Prop := Claim7.holds Tryd.pinned (.plain (OpenSpec.ofChange curveSmallSpec)) curveSmallCard

/-- THE TIED CARD OF 'conclavekeep.CurveOver'. -/
def curveOverCard : Claim7 := { stood := { row := curveOverRow, standIns := [], harness := (true, "58dec869ea928bba37a0adf6e5acda374907d12f382480a3015845c446d6be60"), looks := false }, kinds := [], alts := [], laidByText := true, laidKinds := [.data, .wider], laidTests := true, laidLooks := .later }
def CurveOverCardSaid : Prop := Claim7.holds Tryd.pinned (.plain (OpenSpec.ofChange curveOverSpec)) curveOverCard

/-- THE SECOND FORM's CARD OF 'conclavelaw.CurveShareds'. -/
def curveSharedsUptoCard : Claim7 := { stood := { row := curveSharedsUptoRow, standIns := [], harness := (true, "58dec869ea928bba37a0adf6e5acda374907d12f382480a3015845c446d6be60"), looks := false }, kinds := [], alts := [], laidByText := true, laidKinds := [.data, .wider], laidTests := true, laidLooks := .later }
def CurveSharedsUptoCardSaid : Prop := Claim7.holds Tryd.pinned (.plain (OpenSpec.upto curveSharedsSpec)) curveSharedsUptoCard

/-- THE SECOND FORM's CARD OF 'conclavelaw.CurvePoints'. -/
def curvePointsUptoCard : Claim7 := { stood := { row := curvePointsUptoRow, standIns := [], harness := (true, "58dec869ea928bba37a0adf6e5acda374907d12f382480a3015845c446d6be60"), looks := false }, kinds := [], alts := [], laidByText := true, laidKinds := [.data, .wider], laidTests := true, laidLooks := .later }
def CurvePointsUptoCardSaid : Prop := Claim7.holds Tryd.pinned (.plain (OpenSpec.upto curvePointsSpec)) curvePointsUptoCard

/-- THE SECOND FORM's CARD OF 'conclavekeep.CurveShare'. -/
def curveShareUptoCard : Claim7 := { stood := { row := curveShareUptoRow, standIns := [], harness := (true, "58dec869ea928bba37a0adf6e5acda374907d12f382480a3015845c446d6be60"), looks := false }, kinds := [], alts := [], laidByText := true, laidKinds := [.data, .wider], laidTests := true, laidLooks := .later }
def CurveShareUptoCardSaid : Prop := Claim7.holds Tryd.pinned (.plain (OpenSpec.upto curveShareSpec)) curveShareUptoCard

/-- THE SECOND FORM's CARD OF 'conclavekeep.CurveBits'. -/
def curveBitsUptoCard : Claim7 := { stood := { row := curveBitsUptoRow, standIns := [], harness := (true, "58dec869ea928bba37a0adf6e5acda374907d12f382480a3015845c446d6be60"), looks := false }, kinds := [], alts := [], laidByText := true, laidKinds := [.data, .wider], laidTests := true, laidLooks := .later }
def CurveBitsUptoCardSaid : Prop := Claim7.holds Tryd.pinned (.plain (OpenSpec.upto curveBitsSpec)) curveBitsUptoCard

/-- THE SECOND FORM's CARD OF 'conclavekeep.CurveSmall'. -/
def curveSmallUptoCard : Claim7 := { stood := { row := curveSmallUptoRow, standIns := [], harness := (true, "58dec869ea928bba37a0adf6e5acda374907d12f382480a3015845c446d6be60"), looks := false }, kinds := [], alts := [], laidByText := true, laidKinds := [.data, .wider], laidTests := true, laidLooks := .later }
def CurveSmallUptoCardSaid : Prop := Claim7.holds Tryd.pinned (.plain (OpenSpec.upto curveSmallSpec)) curveSmallUptoCard

/-- THE SECOND FORM's CARD OF 'conclavekeep.CurveOver'. -/
def curveOverUptoCard : Claim7 := { stood := { row := curveOverUptoRow, standIns := [], harness := (true, "58dec869ea928bba37a0adf6e5acda374907d12f382480a3015845c446d6be60"), looks := false }, kinds := [], alts := [], laidByText := true, laidKinds := [.data, .wider], laidTests := true, laidLooks := .later }
def CurveOverUptoCardSaid : Prop := Claim7.holds Tryd.pinned (.plain (OpenSpec.upto curveOverSpec)) curveOverUptoCard
end Rows
end Go.Proofs.YtdhoegkphhekfaaDoor
