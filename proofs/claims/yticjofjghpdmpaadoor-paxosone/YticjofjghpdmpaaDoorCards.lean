/-
  DERIVED. GIVEN WITH THE SEED: THE CARDS: each row of YticjofjghpdmpaaDoorRows.lean that lists a variable, with what it lists TIED to the program's text (the seventh form; the later family's looks); each row that meets fmt, with fmt's text TOLD by the authors' own Lean function (tested against real Go, not proved from fmt's source: count such statements apart). THE CARD IS WHAT COUNTS. Prove the row's statement (the work); the ties are given (YticjofjghpdmpaaDoorTie.lean); close each card by the builder's one call (the guide's Derived/Test/ToyasCard.lean, 'card_holds'). Laid BY PROGRAM, IN A SANDBOX (cutbox-door.mjs). By AI agents, Wed Nov 11 2026. No macro, syntax, notation, axiom, sorry.
-/
import Derived.Test.YticjofjghpdmpaaDoorRows
import GoSem.ClaimSeven
namespace Go.Proofs.YticjofjghpdmpaaDoor
namespace Rows

/-- THE TIED CARD OF 'conclavelaw.PaxosChecks'. -/
def paxosChecksCard : Claim7 := { stood := { row := paxosChecksRow, standIns := [], harness := (true, "1b941b8d24bab36be19df671869c57a59668496555c05d1b26e0bbe1e6555b00"), looks := false }, kinds := [], alts := [], laidByText := true, laidKinds := [.data], laidTests := true, laidLooks := .later }
def PaxosChecksCardSaid : Prop := Claim7.holds Tryd.pinned (.plain (OpenSpec.ofChange paxosChecksSpec)) paxosChecksCard

/-- THE TIED CARD OF 'conclavelaw.PaxosPromises'. -/
def paxosPromisesCard : Claim7 := { stood := { row := paxosPromisesRow, standIns := [], harness := (true, "1b941b8d24bab36be19df671869c57a59668496555c05d1b26e0bbe1e6555b00"), looks := false }, kinds := [], alts := [], laidByText := true, laidKinds := [.data], laidTests := true, laidLooks := .later }
def PaxosPromisesCardSaid : Prop := Claim7.holds Tryd.pinned (.plain (OpenSpec.ofChange paxosPromisesSpec)) paxosPromisesCard

/-- THE TIED CARD OF 'conclavelaw.PaxosAccepts'. -/
def paxosAcceptsCard : Claim7 := { stood := { row := paxosAcceptsRow, standIns := [], harness := (true, "1b941b8d24bab36be19df671869c57a59668496555c05d1b26e0bbe1e6555b00"), looks := false }, kinds := [], alts := [], laidByText := true, laidKinds := [.data], laidTests := true, laidLooks := .later }
def PaxosAcceptsCardSaid : Prop := Claim7.holds Tryd.pinned (.plain (OpenSpec.ofChange paxosAcceptsSpec)) paxosAcceptsCard

/-- THE TIED CARD OF 'conclavelaw.PaxosPicks'. -/
def paxosPicksCard : Claim7 := { stood := { row := paxosPicksRow, standIns := [], harness := (true, "1b941b8d24bab36be19df671869c57a59668496555c05d1b26e0bbe1e6555b00"), looks := false }, kinds := [], alts := [], laidByText := true, laidKinds := [.data], laidTests := true, laidLooks := .later }
def PaxosPicksCardSaid : Prop := Claim7.holds Tryd.pinned (.plain (OpenSpec.ofChange paxosPicksSpec)) paxosPicksCard

/-- THE TIED CARD OF 'conclavelaw.PaxosChosens'. -/
def paxosChosensCard : Claim7 := { stood := { row := paxosChosensRow, standIns := [], harness := (true, "1b941b8d24bab36be19df671869c57a59668496555c05d1b26e0bbe1e6555b00"), looks := false }, kinds := [], alts := [], laidByText := true, laidKinds := [.data], laidTests := true, laidLooks := .later }
def PaxosChosensCardSaid : Prop := Claim7.holds Tryd.pinned (.plain (OpenSpec.ofChange paxosChosensSpec)) paxosChosensCard

/-- THE TIED CARD OF 'conclavekeep.PaxosOne'. -/
def paxosOneCard : Claim7 := { stood := { row := paxosOneRow, standIns := [], harness := (true, "1b941b8d24bab36be19df671869c57a59668496555c05d1b26e0bbe1e6555b00"), looks := false }, kinds := [], alts := [], laidByText := true, laidKinds := [.data], laidTests := true, laidLooks := .later }
def PaxosOneCardSaid : Prop := Claim7.holds Tryd.pinned (.plain (OpenSpec.ofChange paxosOneSpec)) paxosOneCard

/-- THE SECOND FORM's CARD OF 'conclavelaw.PaxosChecks'. -/
def paxosChecksUptoCard : Claim7 := { stood := { row := paxosChecksUptoRow, standIns := [], harness := (true, "1b941b8d24bab36be19df671869c57a59668496555c05d1b26e0bbe1e6555b00"), looks := false }, kinds := [], alts := [], laidByText := true, laidKinds := [.data], laidTests := true, laidLooks := .later }
def PaxosChecksUptoCardSaid : Prop := Claim7.holds Tryd.pinned (.plain (OpenSpec.upto paxosChecksSpec)) paxosChecksUptoCard

/-- THE SECOND FORM's CARD OF 'conclavelaw.PaxosPromises'. -/
def paxosPromisesUptoCard : Claim7 := { stood := { row := paxosPromisesUptoRow, standIns := [], harness := (true, "1b941b8d24bab36be19df671869c57a59668496555c05d1b26e0bbe1e6555b00"), looks := false }, kinds := [], alts := [], laidByText := true, laidKinds := [.data], laidTests := true, laidLooks := .later }
def PaxosPromisesUptoCardSaid : Prop := Claim7.holds Tryd.pinned (.plain (OpenSpec.upto paxosPromisesSpec)) paxosPromisesUptoCard

/-- THE SECOND FORM's CARD OF 'conclavelaw.PaxosAccepts'. -/
def paxosAcceptsUptoCard : Claim7 := { stood := { row := paxosAcceptsUptoRow, standIns := [], harness := (true, "1b941b8d24bab36be19df671869c57a59668496555c05d1b26e0bbe1e6555b00"), looks := false }, kinds := [], alts := [], laidByText := true, laidKinds := [.data], laidTests := true, laidLooks := .later }
def PaxosAcceptsUptoCardSaid : Prop := Claim7.holds Tryd.pinned (.plain (OpenSpec.upto paxosAcceptsSpec)) paxosAcceptsUptoCard

/-- THE SECOND FORM's CARD OF 'conclavelaw.PaxosPicks'. -/
def paxosPicksUptoCard : Claim7 := { stood := { row := paxosPicksUptoRow, standIns := [], harness := (true, "1b941b8d24bab36be19df671869c57a59668496555c05d1b26e0bbe1e6555b00"), looks := false }, kinds := [], alts := [], laidByText := true, laidKinds := [.data], laidTests := true, laidLooks := .later }
def PaxosPicksUptoCardSaid : Prop := Claim7.holds Tryd.pinned (.plain (OpenSpec.upto paxosPicksSpec)) paxosPicksUptoCard

/-- THE SECOND FORM's CARD OF 'conclavelaw.PaxosChosens'. -/
def paxosChosensUptoCard : Claim7 := { stood := { row := paxosChosensUptoRow, standIns := [], harness := (true, "1b941b8d24bab36be19df671869c57a59668496555c05d1b26e0bbe1e6555b00"), looks := false }, kinds := [], alts := [], laidByText := true, laidKinds := [.data], laidTests := true, laidLooks := .later }
def PaxosChosensUptoCardSaid : Prop := Claim7.holds Tryd.pinned (.plain (OpenSpec.upto paxosChosensSpec)) paxosChosensUptoCard

/-- THE SECOND FORM's CARD OF 'conclavekeep.PaxosOne'. -/
def paxosOneUptoCard : Claim7 := { stood := { row := paxosOneUptoRow, standIns := [], harness := (true, "1b941b8d24bab36be19df671869c57a59668496555c05d1b26e0bbe1e6555b00"), looks := false }, kinds := [], alts := [], laidByText := true, laidKinds := [.data], laidTests := true, laidLooks := .later }
def PaxosOneUptoCardSaid : Prop := Claim7.holds Tryd.pinned (.plain (OpenSpec.upto paxosOneSpec)) paxosOneUptoCard
end Rows
end Go.Proofs.YticjofjghpdmpaaDoor
