/-
  DERIVED. GIVEN WITH THE SEED: THE CARDS: each row of YtklfeekcfmkgfabDoorRows.lean that lists a variable, with what it lists TIED to the program's text (the seventh form; the later family's looks); each row that meets fmt, with fmt's text TOLD by the authors' own Lean function (tested against real Go, not proved from fmt's source: count such statements apart). THE CARD IS WHAT COUNTS. Prove the row's statement (the work); the ties are given (YtklfeekcfmkgfabDoorTie.lean); close each card by the builder's one call (the guide's Derived/Test/ToyasCard.lean, 'card_holds'). Laid BY PROGRAM, IN A SANDBOX (cutbox-door.mjs). By AI agents, Wed Nov 11 2026. No macro, syntax, notation, axiom, sorry.
-/
import Derived.Test.YtklfeekcfmkgfabDoorRows
import GoSem.ClaimSeven
namespace Go.Proofs.YtklfeekcfmkgfabDoor
namespace Rows

/-- THE TIED CARD OF 'conclavekeep.MixBlocks'. -/
def mixBlocksCard : Claim7 := { stood := { row := mixBlocksRow, standIns := [], harness := (true, "be96b242f67efad6eced98eef9cb230b0a399eec55a8d705741eefa41acf0d9f"), looks := false }, kinds := [], alts := [], laidByText := true, laidKinds := [.data], laidTests := true, laidLooks := .later }
def MixBlocksCardSaid : Prop := Claim7.holds Tryd.pinned (.plain (OpenSpec.ofChange mixBlocksSpec)) mixBlocksCard

/-- THE TIED CARD OF 'conclavekeep.MixStep'. -/
def mixStepCard : Claim7 := { stood := { row := mixStepRow, standIns := [], harness := (true, "be96b242f67efad6eced98eef9cb230b0a399eec55a8d705741eefa41acf0d9f"), looks := false }, kinds := [], alts := [], laidByText := true, laidKinds := [.data], laidTests := true, laidLooks := .later }
def MixStepCardSaid : Prop := Claim7.holds Tryd.pinned (.plain (OpenSpec.ofChange mixStepSpec)) mixStepCard

/-- THE TIED CARD OF 'conclavekeep.KnownBlock'. -/
def knownBlockCard : Claim7 := { stood := { row := knownBlockRow, standIns := [], harness := (true, "be96b242f67efad6eced98eef9cb230b0a399eec55a8d705741eefa41acf0d9f"), looks := false }, kinds := [], alts := [], laidByText := true, laidKinds := [.data], laidTests := true, laidLooks := .later }
def KnownBlockCardSaid : Prop := Claim7.holds Tryd.pinned (.plain (OpenSpec.ofChange knownBlockSpec)) knownBlockCard

/-- THE SECOND FORM's CARD OF 'conclavekeep.MixBlocks'. -/
def mixBlocksUptoCard : Claim7 := { stood := { row := mixBlocksUptoRow, standIns := [], harness := (true, "be96b242f67efad6eced98eef9cb230b0a399eec55a8d705741eefa41acf0d9f"), looks := false }, kinds := [], alts := [], laidByText := true, laidKinds := [.data], laidTests := true, laidLooks := .later }
def MixBlocksUptoCardSaid : Prop := Claim7.holds Tryd.pinned (.plain (OpenSpec.upto mixBlocksSpec)) mixBlocksUptoCard

/-- THE SECOND FORM's CARD OF 'conclavekeep.MixStep'. -/
def mixStepUptoCard : Claim7 := { stood := { row := mixStepUptoRow, standIns := [], harness := (true, "be96b242f67efad6eced98eef9cb230b0a399eec55a8d705741eefa41acf0d9f"), looks := false }, kinds := [], alts := [], laidByText := true, laidKinds := [.data], laidTests := true, laidLooks := .later }
def MixStepUptoCardSaid : Prop := Claim7.holds Tryd.pinned (.plain (OpenSpec.upto mixStepSpec)) mixStepUptoCard

/-- THE SECOND FORM's CARD OF 'conclavekeep.KnownBlock'. -/
def knownBlockUptoCard : Claim7 := { stood := { row := knownBlockUptoRow, standIns := [], harness := (true, "be96b242f67efad6eced98eef9cb230b0a399eec55a8d705741eefa41acf0d9f"), looks := false }, kinds := [], alts := [], laidByText := true, laidKinds := [.data], laidTests := true, laidLooks := .later }
def KnownBlockUptoCardSaid : Prop := Claim7.holds Tryd.pinned (.plain (OpenSpec.upto knownBlockSpec)) knownBlockUptoCard
end Rows
end Go.Proofs.YtklfeekcfmkgfabDoor
