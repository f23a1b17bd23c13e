/-
  DERIVED. GIVEN WITH THE SEED: THE CARDS: each row of YtdhoegkphhekfabDoorRows.lean that lists a variable, with what it lists TIED to the program's text (the seventh form; the later family's looks); each row that meets fmt, with fmt's text TOLD by the authors' own Lean function (tested against real Go, not proved from fmt's source: count such statements apart). THE CARD IS WHAT COUNTS. Prove the row's statement (the work); the ties are given (YtdhoegkphhekfabDoorTie.lean); close each card by the builder's one call (the guide's Derived/Test/ToyasCard.lean, 'card_holds'). Laid BY PROGRAM, IN A SANDBOX (cutbox-door.mjs). By AI agents, Wed Nov 11 2026. No macro, syntax, notation, axiom, sorry.
-/
import Derived.Test.YtdhoegkphhekfabDoorRows
import GoSem.ClaimSeven
namespace Go.Proofs.YtdhoegkphhekfabDoor
namespace Rows

/-- THE TIED CARD OF 'conclavekeep.CurveThree'. -/
def curveThreeCard : Claim7 := { stood := { row := curveThreeRow, standIns := [], harness := (true, "fb5faac74d02c4b6d84fe66758d641adedf935137f4d74af18506fd47fcd328b"), looks := false }, kinds := [], alts := [], laidByText := true, laidKinds := [.data, .wider], laidTests := true, laidLooks := .later }
def CurveThreeCardSaid : Prop := Claim7.holds Tryd.pinned (.plain (OpenSpec.ofChange curveThreeSpec)) curveThreeCard

/-- THE TIED CARD OF 'conclavekeep.KnownCurve'. -/
def knownCurveCard : Claim7 := { stood := { row := knownCurveRow, standIns := [], harness := (true, "fb5faac74d02c4b6d84fe66758d641adedf935137f4d74af18506fd47fcd328b"), looks := false }, kinds := [], alts := [], laidByText := true, laidKinds := [.data, .wider], laidTests := true, laidLooks := .later }
def KnownCurveCardSaid : Prop := Claim7.holds Tryd.pinned (.plain (OpenSpec.ofChange knownCurveSpec)) knownCurveCard

/-- THE TIED CARD OF 'conclavekeep.PointNine'. -/
def pointNineCard : Claim7 := { stood := { row := pointNineRow, standIns := [], harness := (true, "fb5faac74d02c4b6d84fe66758d641adedf935137f4d74af18506fd47fcd328b"), looks := false }, kinds := [], alts := [], laidByText := true, laidKinds := [.data, .wider], laidTests := true, laidLooks := .later }
def PointNineCardSaid : Prop := Claim7.holds Tryd.pinned (.plain (OpenSpec.ofChange pointNineSpec)) pointNineCard

/-- THE SECOND FORM's CARD OF 'conclavekeep.CurveThree'. -/
def curveThreeUptoCard : Claim7 := { stood := { row := curveThreeUptoRow, standIns := [], harness := (true, "fb5faac74d02c4b6d84fe66758d641adedf935137f4d74af18506fd47fcd328b"), looks := false }, kinds := [], alts := [], laidByText := true, laidKinds := [.data, .wider], laidTests := true, laidLooks := .later }
def CurveThreeUptoCardSaid : Prop := Claim7.holds Tryd.pinned (.plain (OpenSpec.upto curveThreeSpec)) curveThreeUptoCard

/-- THE SECOND FORM's CARD OF 'conclavekeep.KnownCurve'. -/
def knownCurveUptoCard : Claim7 := { stood := { row := knownCurveUptoRow, standIns := [], harness := (true, "fb5faac74d02c4b6d84fe66758d641adedf935137f4d74af18506fd47fcd328b"), looks := false }, kinds := [], alts := [], laidByText := true, laidKinds := [.data, .wider], laidTests := true, laidLooks := .later }
def KnownCurveUptoCardSaid : Prop := Claim7.holds Tryd.pinned (.plain (OpenSpec.upto knownCurveSpec)) knownCurveUptoCard

/-- THE SECOND FORM's CARD OF 'conclavekeep.PointNine'. -/
def pointNineUptoCard : Claim7 := { stood := { row := pointNineUptoRow, standIns := [], harness := (true, "fb5faac74d02c4b6d84fe66758d641adedf935137f4d74af18506fd47fcd328b"), looks := false }, kinds := [], alts := [], laidByText := true, laidKinds := [.data, .wider], laidTests := true, laidLooks := .later }
def PointNineUptoCardSaid : Prop := Claim7.holds Tryd.pinned (.plain (OpenSpec.upto pointNineSpec)) pointNineUptoCard
end Rows
end Go.Proofs.YtdhoegkphhekfabDoor
