/-
  DERIVED. GIVEN WITH THE SEED: THE CARDS: each row of YthmlikljeoamgaaDoorRows.lean that lists a variable, with what it lists TIED to the program's text (the seventh form; the later family's looks); each row that meets fmt, with fmt's text TOLD by the authors' own Lean function (tested against real Go, not proved from fmt's source: count such statements apart). THE CARD IS WHAT COUNTS. Prove the row's statement (the work); the ties are given (YthmlikljeoamgaaDoorTie.lean); close each card by the builder's one call (the guide's Derived/Test/ToyasCard.lean, 'card_holds'). Laid BY PROGRAM, IN A SANDBOX (cutbox-door.mjs). By AI agents, Wed Nov 11 2026. No macro, syntax, notation, axiom, sorry.
-/
import Derived.Test.YthmlikljeoamgaaDoorRows
import GoSem.ClaimSeven
namespace Go.Proofs.YthmlikljeoamgaaDoor
namespace Rows

/-- THE TIED CARD OF 'conclavelaw.StablePromises'. -/
def stablePromisesCard : Claim7 := { stood := { row := stablePromisesRow, standIns := [], harness := (true, "e0a9a31c372dd3394ddcb196f32ea7a52ad90ae9253a1b25a9ffe00e9bca8a6e"), looks := false }, kinds := [], alts := [], laidByText := true, laidKinds := [.data, .data], laidTests := true, laidLooks := .later }
def StablePromisesCardSaid : Prop := Claim7.holds Tryd.pinned (.plain (OpenSpec.ofChange stablePromisesSpec)) stablePromisesCard

/-- THE TIED CARD OF 'conclavelaw.StableVotes'. -/
def stableVotesCard : Claim7 := { stood := { row := stableVotesRow, standIns := [], harness := (true, "e0a9a31c372dd3394ddcb196f32ea7a52ad90ae9253a1b25a9ffe00e9bca8a6e"), looks := false }, kinds := [], alts := [], laidByText := true, laidKinds := [.data, .data], laidTests := true, laidLooks := .later }
def StableVotesCardSaid : Prop := Claim7.holds Tryd.pinned (.plain (OpenSpec.ofChange stableVotesSpec)) stableVotesCard

/-- THE TIED CARD OF 'conclavelaw.StableRecovers'. -/
def stableRecoversCard : Claim7 := { stood := { row := stableRecoversRow, standIns := [], harness := (true, "e0a9a31c372dd3394ddcb196f32ea7a52ad90ae9253a1b25a9ffe00e9bca8a6e"), looks := false }, kinds := [], alts := [], laidByText := true, laidKinds := [.data, .data], laidTests := true, laidLooks := .later }
def StableRecoversCardSaid : Prop := Claim7.holds Tryd.pinned (.plain (OpenSpec.ofChange stableRecoversSpec)) stableRecoversCard

/-- THE TIED CARD OF 'conclavelaw.StableRepairs'. -/
def stableRepairsCard : Claim7 := { stood := { row := stableRepairsRow, standIns := [], harness := (true, "e0a9a31c372dd3394ddcb196f32ea7a52ad90ae9253a1b25a9ffe00e9bca8a6e"), looks := false }, kinds := [], alts := [], laidByText := true, laidKinds := [.data, .data], laidTests := true, laidLooks := .later }
def StableRepairsCardSaid : Prop := Claim7.holds Tryd.pinned (.plain (OpenSpec.ofChange stableRepairsSpec)) stableRepairsCard

/-- THE SECOND FORM's CARD OF 'conclavelaw.StablePromises'. -/
def stablePromisesUptoCard : Claim7 := { stood := { row := stablePromisesUptoRow, standIns := [], harness := (true, "e0a9a31c372dd3394ddcb196f32ea7a52ad90ae9253a1b25a9ffe00e9bca8a6e"), looks := false }, kinds := [], alts := [], laidByText := true, laidKinds := [.data, .data], laidTests := true, laidLooks := .later }
def StablePromisesUptoCardSaid : Prop := Claim7.holds Tryd.pinned (.plain (OpenSpec.upto stablePromisesSpec)) stablePromisesUptoCard

/-- THE SECOND FORM's CARD OF 'conclavelaw.StableVotes'. -/
def stableVotesUptoCard : Claim7 := { stood := { row := stableVotesUptoRow, standIns := [], harness := (true, "e0a9a31c372dd3394ddcb196f32ea7a52ad90ae9253a1b25a9ffe00e9bca8a6e"), looks := false }, kinds := [], alts := [], laidByText := true, laidKinds := [.data, .data], laidTests := true, laidLooks := .later }
def StableVotesUptoCardSaid : Prop := Claim7.holds Tryd.pinned (.plain (OpenSpec.upto stableVotesSpec)) stableVotesUptoCard

/-- THE SECOND FORM's CARD OF 'conclavelaw.StableRecovers'. -/
def stableRecoversUptoCard : Claim7 := { stood := { row := stableRecoversUptoRow, standIns := [], harness := (true, "e0a9a31c372dd3394ddcb196f32ea7a52ad90ae9253a1b25a9ffe00e9bca8a6e"), looks := false }, kinds := [], alts := [], laidByText := true, laidKinds := [.data, .data], laidTests := true, laidLooks := .later }
def StableRecoversUptoCardSaid : Prop := Claim7.holds Tryd.pinned (.plain (OpenSpec.upto stableRecoversSpec)) stableRecoversUptoCard

/-- THE SECOND FORM's CARD OF 'conclavelaw.StableRepairs'. -/
def stableRepairsUptoCard : Claim7 := { stood := { row := stableRepairsUptoRow, standIns := [], harness := (true, "e0a9a31c372dd3394ddcb196f32ea7a52ad90ae9253a1b25a9ffe00e9bca8a6e"), looks := false }, kinds := [], alts := [], laidByText := true, laidKinds := [.data, .data], laidTests := true, laidLooks := .later }
def StableRepairsUptoCardSaid : Prop := Claim7.holds Tryd.pinned (.plain (OpenSpec.upto stableRepairsSpec)) stableRepairsUptoCard
end Rows
end Go.Proofs.YthmlikljeoamgaaDoor
