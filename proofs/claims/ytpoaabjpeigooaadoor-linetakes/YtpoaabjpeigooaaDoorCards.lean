/-
  DERIVED. GIVEN WITH THE SEED: THE CARDS: each row of YtpoaabjpeigooaaDoorRows.lean that lists a variable, with what it lists TIED to the program's text (the seventh form; the later family's looks); each row that meets fmt, with fmt's text TOLD by the authors' own Lean function (tested against real Go, not proved from fmt's source: count such statements apart). THE CARD IS WHAT COUNTS. Prove the row's statement (the work); the ties are given (YtpoaabjpeigooaaDoorTie.lean); close each card by the builder's one call (the guide's Derived/Test/ToyasCard.lean, 'card_holds'). Laid BY PROGRAM, IN A SANDBOX (cutbox-door.mjs). By AI agents, Wed Nov 11 2026. No macro, syntax, notation, axiom, sorry.
-/
import Derived.Test.YtpoaabjpeigooaaDoorRows
import GoSem.ClaimSeven
namespace Go.Proofs.YtpoaabjpeigooaaDoor
namespace Rows

/-- THE TIED CARD OF 'conclavelaw.LineSends'. -/
def lineSendsCard : Claim7 := { stood := { row := lineSendsRow, standIns := [], harness := (true, "5056ede28e238c0a827b331c64cc35b78514c549b2f52d7605277a369ada30e8"), looks := false }, kinds := [], alts := [], laidByText := true, laidKinds := [.data], laidTests := true, laidLooks := .later }
def LineSendsCardSaid : Prop := Claim7.holds Tryd.pinned (.plain (OpenSpec.ofChange lineSendsSpec)) lineSendsCard

/-- THE TIED CARD OF 'conclavelaw.LineTakes'. -/
def lineTakesCard : Claim7 := { stood := { row := lineTakesRow, standIns := [], harness := (true, "5056ede28e238c0a827b331c64cc35b78514c549b2f52d7605277a369ada30e8"), looks := false }, kinds := [], alts := [], laidByText := true, laidKinds := [.data], laidTests := true, laidLooks := .later }
def LineTakesCardSaid : Prop := Claim7.holds Tryd.pinned (.plain (OpenSpec.ofChange lineTakesSpec)) lineTakesCard

/-- THE TIED CARD OF 'conclavekeep.LineBack'. -/
def lineBackCard : Claim7 := { stood := { row := lineBackRow, standIns := [], harness := (true, "5056ede28e238c0a827b331c64cc35b78514c549b2f52d7605277a369ada30e8"), looks := false }, kinds := [], alts := [], laidByText := true, laidKinds := [.data], laidTests := true, laidLooks := .later }
def LineBackCardSaid : Prop := Claim7.holds Tryd.pinned (.plain (OpenSpec.ofChange lineBackSpec)) lineBackCard

/-- THE TIED CARD OF 'conclavekeep.LineOnce'. -/
def lineOnceCard : Claim7 := { stood := { row := lineOnceRow, standIns := [], harness := (true, "5056ede28e238c0a827b331c64cc35b78514c549b2f52d7605277a369ada30e8"), looks := false }, kinds := [], alts := [], laidByText := true, laidKinds := [.data], laidTests := true, laidLooks := .later }
def LineOnceCardSaid : Prop := Claim7.holds Tryd.pinned (.plain (OpenSpec.ofChange lineOnceSpec)) lineOnceCard

/-- THE SECOND FORM's CARD OF 'conclavelaw.LineSends'. -/
def lineSendsUptoCard : Claim7 := { stood := { row := lineSendsUptoRow, standIns := [], harness := (true, "5056ede28e238c0a827b331c64cc35b78514c549b2f52d7605277a369ada30e8"), looks := false }, kinds := [], alts := [], laidByText := true, laidKinds := [.data], laidTests := true, laidLooks := .later }
def LineSendsUptoCardSaid : Prop := Claim7.holds Tryd.pinned (.plain (OpenSpec.upto lineSendsSpec)) lineSendsUptoCard

/-- THE SECOND FORM's CARD OF 'conclavelaw.LineTakes'. -/
def lineTakesUptoCard : Claim7 := { stood := { row := lineTakesUptoRow, standIns := [], harness := (true, "5056ede28e238c0a827b331c64cc35b78514c549b2f52d7605277a369ada30e8"), looks := false }, kinds := [], alts := [], laidByText := true, laidKinds := [.data], laidTests := true, laidLooks := .later }
def LineTakesUptoCardSaid : Prop := Claim7.holds Tryd.pinned (.plain (OpenSpec.upto lineTakesSpec)) lineTakesUptoCard

/-- THE SECOND FORM's CARD OF 'conclavekeep.LineBack'. -/
def lineBackUptoCard : Claim7 := { stood := { row := lineBackUptoRow, standIns := [], harness := (true, "5056ede28e238c0a827b331c64cc35b78514c549b2f52d7605277a369ada30e8"), looks := false }, kinds := [], alts := [], laidByText := true, laidKinds := [.data], laidTests := true, laidLooks := .later }
def LineBackUptoCardSaid : Prop := Claim7.holds Tryd.pinned (.plain (OpenSpec.upto lineBackSpec)) lineBackUptoCard

/-- THE SECOND FORM's CARD OF 'conclavekeep.LineOnce'. -/
def lineOnceUptoCard : Claim7 := { stood := { row := lineOnceUptoRow, standIns := [], harness := (true, "5056ede28e238c0a827b331c64cc35b78514c549b2f52d7605277a369ada30e8"), looks := false }, kinds := [], alts := [], laidByText := true, laidKinds := [.data], laidTests := true, laidLooks := .later }
def LineOnceUptoCardSaid : Prop := Claim7.holds Tryd.pinned (.plain (OpenSpec.upto lineOnceSpec)) lineOnceUptoCard
end Rows
end Go.Proofs.YtpoaabjpeigooaaDoor
