/-
  DERIVED. GIVEN WITH THE SEED: THE CARDS: each row of YtjlboglcffdnoaaDoorRows.lean that lists a variable, with what it lists TIED to the program's text (the seventh form; the later family's looks); each row that meets fmt, with fmt's text TOLD by the authors' own Lean function (tested against real Go, not proved from fmt's source: count such statements apart). THE CARD IS WHAT COUNTS. Prove the row's statement (the work); the ties are given (YtjlboglcffdnoaaDoorTie.lean); close each card by the builder's one call (the guide's Derived/Test/ToyasCard.lean, 'card_holds'). Laid BY PROGRAM, IN A SANDBOX (cutbox-door.mjs). By AI agents, Wed Nov 11 2026. No macro, syntax, notation, axiom, sorry.
-/
import Derived.Test.YtjlboglcffdnoaaDoorRows
import GoSem.ClaimSeven
namespace Go.Proofs.YtjlboglcffdnoaaDoor
namespace Rows

/-- THE TIED CARD OF 'conclavelaw.OrderChecks'. -/
def orderChecksCard : Claim7 := { stood := { row := orderChecksRow, standIns := [], harness := (true, "d57a7ffa3cafa69a70424cc2c870173367feb9dafd5fcbaa57d39b3596c9304a"), looks := false }, kinds := [], alts := [], laidByText := true, laidKinds := [.data], laidTests := true, laidLooks := .later }
def OrderChecksCardSaid : Prop := Claim7.holds Tryd.pinned (.plain (OpenSpec.ofChange orderChecksSpec)) orderChecksCard

/-- THE TIED CARD OF 'conclavelaw.OrderEncodes'. -/
def orderEncodesCard : Claim7 := { stood := { row := orderEncodesRow, standIns := [], harness := (true, "d57a7ffa3cafa69a70424cc2c870173367feb9dafd5fcbaa57d39b3596c9304a"), looks := false }, kinds := [], alts := [], laidByText := true, laidKinds := [.data], laidTests := true, laidLooks := .later }
def OrderEncodesCardSaid : Prop := Claim7.holds Tryd.pinned (.plain (OpenSpec.ofChange orderEncodesSpec)) orderEncodesCard

/-- THE TIED CARD OF 'conclavelaw.OrderDecodes'. -/
def orderDecodesCard : Claim7 := { stood := { row := orderDecodesRow, standIns := [], harness := (true, "d57a7ffa3cafa69a70424cc2c870173367feb9dafd5fcbaa57d39b3596c9304a"), looks := false }, kinds := [], alts := [], laidByText := true, laidKinds := [.data], laidTests := true, laidLooks := .later }
def OrderDecodesCardSaid : Prop := Claim7.holds Tryd.pinned (.plain (OpenSpec.ofChange orderDecodesSpec)) orderDecodesCard

/-- THE TIED CARD OF 'conclavelaw.OrderGrants'. -/
def orderGrantsCard : Claim7 := { stood := { row := orderGrantsRow, standIns := [], harness := (true, "d57a7ffa3cafa69a70424cc2c870173367feb9dafd5fcbaa57d39b3596c9304a"), looks := false }, kinds := [], alts := [], laidByText := true, laidKinds := [.data], laidTests := true, laidLooks := .later }
def OrderGrantsCardSaid : Prop := Claim7.holds Tryd.pinned (.plain (OpenSpec.ofChange orderGrantsSpec)) orderGrantsCard

/-- THE TIED CARD OF 'conclavelaw.OrderProves'. -/
def orderProvesCard : Claim7 := { stood := { row := orderProvesRow, standIns := [], harness := (true, "d57a7ffa3cafa69a70424cc2c870173367feb9dafd5fcbaa57d39b3596c9304a"), looks := false }, kinds := [], alts := [], laidByText := true, laidKinds := [.data], laidTests := true, laidLooks := .later }
def OrderProvesCardSaid : Prop := Claim7.holds Tryd.pinned (.plain (OpenSpec.ofChange orderProvesSpec)) orderProvesCard

/-- THE TIED CARD OF 'conclavelaw.OrderAllows'. -/
def orderAllowsCard : Claim7 := { stood := { row := orderAllowsRow, standIns := [], harness := (true, "d57a7ffa3cafa69a70424cc2c870173367feb9dafd5fcbaa57d39b3596c9304a"), looks := false }, kinds := [], alts := [], laidByText := true, laidKinds := [.data], laidTests := true, laidLooks := .later }
def OrderAllowsCardSaid : Prop := Claim7.holds Tryd.pinned (.plain (OpenSpec.ofChange orderAllowsSpec)) orderAllowsCard

/-- THE SECOND FORM's CARD OF 'conclavelaw.OrderChecks'. -/
def orderChecksUptoCard : Claim7 := { stood := { row := orderChecksUptoRow, standIns := [], harness := (true, "d57a7ffa3cafa69a70424cc2c870173367feb9dafd5fcbaa57d39b3596c9304a"), looks := false }, kinds := [], alts := [], laidByText := true, laidKinds := [.data], laidTests := true, laidLooks := .later }
def OrderChecksUptoCardSaid : Prop := Claim7.holds Tryd.pinned (.plain (OpenSpec.upto orderChecksSpec)) orderChecksUptoCard

/-- THE SECOND FORM's CARD OF 'conclavelaw.OrderEncodes'. -/
def orderEncodesUptoCard : Claim7 := { stood := { row := orderEncodesUptoRow, standIns := [], harness := (true, "d57a7ffa3cafa69a70424cc2c870173367feb9dafd5fcbaa57d39b3596c9304a"), looks := false }, kinds := [], alts := [], laidByText := true, laidKinds := [.data], laidTests := true, laidLooks := .later }
def OrderEncodesUptoCardSaid : Prop := Claim7.holds Tryd.pinned (.plain (OpenSpec.upto orderEncodesSpec)) orderEncodesUptoCard

/-- THE SECOND FORM's CARD OF 'conclavelaw.OrderDecodes'. -/
def orderDecodesUptoCard : Claim7 := { stood := { row := orderDecodesUptoRow, standIns := [], harness := (true, "d57a7ffa3cafa69a70424cc2c870173367feb9dafd5fcbaa57d39b3596c9304a"), looks := false }, kinds := [], alts := [], laidByText := true, laidKinds := [.data], laidTests := true, laidLooks := .later }
def OrderDecodesUptoCardSaid : Prop := Claim7.holds Tryd.pinned (.plain (OpenSpec.upto orderDecodesSpec)) orderDecodesUptoCard

/-- THE SECOND FORM's CARD OF 'conclavelaw.OrderGrants'. -/
def orderGrantsUptoCard : Claim7 := { stood := { row := orderGrantsUptoRow, standIns := [], harness := (true, "d57a7ffa3cafa69a70424cc2c870173367feb9dafd5fcbaa57d39b3596c9304a"), looks := false }, kinds := [], alts := [], laidByText := true, laidKinds := [.data], laidTests := true, laidLooks := .later }
def OrderGrantsUptoCardSaid : Prop := Claim7.holds Tryd.pinned (.plain (OpenSpec.upto orderGrantsSpec)) orderGrantsUptoCard

/-- THE SECOND FORM's CARD OF 'conclavelaw.OrderProves'. -/
def orderProvesUptoCard : Claim7 := { stood := { row := orderProvesUptoRow, standIns := [], harness := (true, "d57a7ffa3cafa69a70424cc2c870173367feb9dafd5fcbaa57d39b3596c9304a"), looks := false }, kinds := [], alts := [], laidByText := true, laidKinds := [.data], laidTests := true, laidLooks := .later }
def OrderProvesUptoCardSaid : Prop := Claim7.holds Tryd.pinned (.plain (OpenSpec.upto orderProvesSpec)) orderProvesUptoCard

/-- THE SECOND FORM's CARD OF 'conclavelaw.OrderAllows'. -/
def orderAllowsUptoCard : Claim7 := { stood := { row := orderAllowsUptoRow, standIns := [], harness := (true, "d57a7ffa3cafa69a70424cc2c870173367feb9dafd5fcbaa57d39b3596c9304a"), looks := false }, kinds := [], alts := [], laidByText := true, laidKinds := [.data], laidTests := true, laidLooks := .later }
def OrderAllowsUptoCardSaid : Prop := Claim7.holds Tryd.pinned (.plain (OpenSpec.upto orderAllowsSpec)) orderAllowsUptoCard
end Rows
end Go.Proofs.YtjlboglcffdnoaaDoor
