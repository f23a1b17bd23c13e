/-
  DERIVED. GIVEN WITH THE SEED: THE CARDS: each row of YtkchbdgikgbiaabGreatDoorRows.lean that lists a variable, with what it lists TIED to the program's text (the seventh form; the later family's looks); each row that meets fmt, with fmt's text TOLD by the authors' own Lean function (tested against real Go, not proved from fmt's source: count such statements apart). THE CARD IS WHAT COUNTS. Prove the row's statement (the work); the ties are given (YtkchbdgikgbiaabGreatDoorTie.lean); close each card by the builder's one call (the guide's Derived/Test/ToyasCard.lean, 'card_holds'). Laid BY PROGRAM, IN A SANDBOX (cutbox-door.mjs). By AI agents, Wed Nov 11 2026. No macro, syntax, notation, axiom, sorry.
-/
import Derived.Test.YtkchbdgikgbiaabGreatDoorRows
import GoSem.ClaimSeven
namespace Go.Proofs.YtkchbdgikgbiaabGreatDoor
namespace Rows

/-- THE TIED CARD OF 'conclavetop.TopForged'. -/
def topForgedCard : Claim7 := { stood := { row := topForgedRow, standIns := [], harness := (true, "7dcd924ba6b999e2264aba0e90b7e8569535968ef32f1728d345f3b74d0f172a"), looks := false }, kinds := [], alts := [], laidByText := true, laidKinds := [.data, .data, .data, .data, .data], laidTests := true, laidLooks := .later }
def TopForgedCardSaid : Prop := Claim7.holds Tryz.pinned (.plain (OpenSpec.ofChange topForgedSpec)) topForgedCard

/-- THE TIED CARD OF 'conclavetop.TopGrows'. -/
def topGrowsCard : Claim7 := { stood := { row := topGrowsRow, standIns := [], harness := (true, "7dcd924ba6b999e2264aba0e90b7e8569535968ef32f1728d345f3b74d0f172a"), looks := false }, kinds := [], alts := [], laidByText := true, laidKinds := [.data, .data, .data, .data, .data], laidTests := true, laidLooks := .later }
def TopGrowsCardSaid : Prop := Claim7.holds Tryz.pinned (.plain (OpenSpec.ofChange topGrowsSpec)) topGrowsCard

/-- THE TIED CARD OF 'conclavetop.TopLeaderless'. -/
def topLeaderlessCard : Claim7 := { stood := { row := topLeaderlessRow, standIns := [], harness := (true, "7dcd924ba6b999e2264aba0e90b7e8569535968ef32f1728d345f3b74d0f172a"), looks := false }, kinds := [], alts := [], laidByText := true, laidKinds := [.data, .data, .data, .data, .data], laidTests := true, laidLooks := .later }
def TopLeaderlessCardSaid : Prop := Claim7.holds Tryz.pinned (.plain (OpenSpec.ofChange topLeaderlessSpec)) topLeaderlessCard

/-- THE TIED CARD OF 'conclavetop.TopMinority'. -/
def topMinorityCard : Claim7 := { stood := { row := topMinorityRow, standIns := [], harness := (true, "7dcd924ba6b999e2264aba0e90b7e8569535968ef32f1728d345f3b74d0f172a"), looks := false }, kinds := [], alts := [], laidByText := true, laidKinds := [.data, .data, .data, .data, .data], laidTests := true, laidLooks := .later }
def TopMinorityCardSaid : Prop := Claim7.holds Tryz.pinned (.plain (OpenSpec.ofChange topMinoritySpec)) topMinorityCard

/-- THE TIED CARD OF 'conclavetop.TopCrash'. -/
def topCrashCard : Claim7 := { stood := { row := topCrashRow, standIns := [], harness := (true, "7dcd924ba6b999e2264aba0e90b7e8569535968ef32f1728d345f3b74d0f172a"), looks := false }, kinds := [], alts := [], laidByText := true, laidKinds := [.data, .data, .data, .data, .data], laidTests := true, laidLooks := .later }
def TopCrashCardSaid : Prop := Claim7.holds Tryz.pinned (.plain (OpenSpec.ofChange topCrashSpec)) topCrashCard

/-- THE TIED CARD OF 'conclavetop.TopDown'. -/
def topDownCard : Claim7 := { stood := { row := topDownRow, standIns := [], harness := (true, "7dcd924ba6b999e2264aba0e90b7e8569535968ef32f1728d345f3b74d0f172a"), looks := false }, kinds := [], alts := [], laidByText := true, laidKinds := [.data, .data, .data, .data, .data], laidTests := true, laidLooks := .later }
def TopDownCardSaid : Prop := Claim7.holds Tryz.pinned (.plain (OpenSpec.ofChange topDownSpec)) topDownCard

/-- THE SECOND FORM's CARD OF 'conclavetop.TopForged'. -/
def topForgedUptoCard : Claim7 := { stood := { row := topForgedUptoRow, standIns := [], harness := (true, "7dcd924ba6b999e2264aba0e90b7e8569535968ef32f1728d345f3b74d0f172a"), looks := false }, kinds := [], alts := [], laidByText := true, laidKinds := [.data, .data, .data, .data, .data], laidTests := true, laidLooks := .later }
def TopForgedUptoCardSaid : Prop := Claim7.holds Tryz.pinned (.plain (OpenSpec.upto topForgedSpec)) topForgedUptoCard

/-- THE SECOND FORM's CARD OF 'conclavetop.TopGrows'. -/
def topGrowsUptoCard : Claim7 := { stood := { row := topGrowsUptoRow, standIns := [], harness := (true, "7dcd924ba6b999e2264aba0e90b7e8569535968ef32f1728d345f3b74d0f172a"), looks := false }, kinds := [], alts := [], laidByText := true, laidKinds := [.data, .data, .data, .data, .data], laidTests := true, laidLooks := .later }
def TopGrowsUptoCardSaid : Prop := Claim7.holds Tryz.pinned (.plain (OpenSpec.upto topGrowsSpec)) topGrowsUptoCard

/-- THE SECOND FORM's CARD OF 'conclavetop.TopLeaderless'. -/
def topLeaderlessUptoCard : Claim7 := { stood := { row := topLeaderlessUptoRow, standIns := [], harness := (true, "7dcd924ba6b999e2264aba0e90b7e8569535968ef32f1728d345f3b74d0f172a"), looks := false }, kinds := [], alts := [], laidByText := true, laidKinds := [.data, .data, .data, .data, .data], laidTests := true, laidLooks := .later }
def TopLeaderlessUptoCardSaid : Prop := Claim7.holds Tryz.pinned (.plain (OpenSpec.upto topLeaderlessSpec)) topLeaderlessUptoCard

/-- THE SECOND FORM's CARD OF 'conclavetop.TopMinority'. -/
def topMinorityUptoCard : Claim7 := { stood := { row := topMinorityUptoRow, standIns := [], harness := (true, "7dcd924ba6b999e2264aba0e90b7e8569535968ef32f1728d345f3b74d0f172a"), looks := false }, kinds := [], alts := [], laidByText := true, laidKinds := [.data, .data, .data, .data, .data], laidTests := true, laidLooks := .later }
def TopMinorityUptoCardSaid : Prop := Claim7.holds Tryz.pinned (.plain (OpenSpec.upto topMinoritySpec)) topMinorityUptoCard

/-- THE SECOND FORM's CARD OF 'conclavetop.TopCrash'. -/
def topCrashUptoCard : Claim7 := { stood := { row := topCrashUptoRow, standIns := [], harness := (true, "7dcd924ba6b999e2264aba0e90b7e8569535968ef32f1728d345f3b74d0f172a"), looks := false }, kinds := [], alts := [], laidByText := true, laidKinds := [.data, .data, .data, .data, .data], laidTests := true, laidLooks := .later }
def TopCrashUptoCardSaid : Prop := Claim7.holds Tryz.pinned (.plain (OpenSpec.upto topCrashSpec)) topCrashUptoCard

/-- THE SECOND FORM's CARD OF 'conclavetop.TopDown'. -/
def topDownUptoCard : Claim7 := { stood := { row := topDownUptoRow, standIns := [], harness := (true, "7dcd924ba6b999e2264aba0e90b7e8569535968ef32f1728d345f3b74d0f172a"), looks := false }, kinds := [], alts := [], laidByText := true, laidKinds := [.data, .data, .data, .data, .data], laidTests := true, laidLooks := .later }
def TopDownUptoCardSaid : Prop := Claim7.holds Tryz.pinned (.plain (OpenSpec.upto topDownSpec)) topDownUptoCard
end Rows
end Go.Proofs.YtkchbdgikgbiaabGreatDoor
