/-
  DERIVED. GIVEN WITH THE SEED: THE CARDS: each row of YtmpefofifbehjaaDoorRows.lean that lists a variable, with what it lists TIED to the program's text (the seventh form; the later family's looks); each row that meets fmt, with fmt's text TOLD by the authors' own Lean function (tested against real Go, not proved from fmt's source: count such statements apart). THE CARD IS WHAT COUNTS. Prove the row's statement (the work); the ties are given (YtmpefofifbehjaaDoorTie.lean); close each card by the builder's one call (the guide's Derived/Test/ToyasCard.lean, 'card_holds'). Laid BY PROGRAM, IN A SANDBOX (cutbox-door.mjs). By AI agents, Wed Nov 11 2026. No macro, syntax, notation, axiom, sorry.
-/
import Derived.Test.YtmpefofifbehjaaDoorRows
import GoSem.ClaimSeven
namespace Go.Proofs.YtmpefofifbehjaaDoor
namespace Rows

/-- THE TIED CARD OF 'conclavelaw.VaultDoes'. -/
def vaultDoesCard : Claim7 := { stood := { row := vaultDoesRow, standIns := [], harness := (true, "c750e0a39cd87449dcdcec999b2f1a925b41bf1dce19c9463858cda828f8c173"), looks := false }, kinds := [], alts := [], laidByText := true, laidKinds := [.data], laidTests := true, laidLooks := .later }
def VaultDoesCardSaid : Prop := Claim7.holds Tryd.pinned (.plain (OpenSpec.ofChange vaultDoesSpec)) vaultDoesCard

/-- THE TIED CARD OF 'conclavelaw.VaultChains'. -/
def vaultChainsCard : Claim7 := { stood := { row := vaultChainsRow, standIns := [], harness := (true, "c750e0a39cd87449dcdcec999b2f1a925b41bf1dce19c9463858cda828f8c173"), looks := false }, kinds := [], alts := [], laidByText := true, laidKinds := [.data, .data], laidTests := true, laidLooks := .later }
def VaultChainsCardSaid : Prop := Claim7.holds Tryd.pinned (.plain (OpenSpec.ofChange vaultChainsSpec)) vaultChainsCard

/-- THE TIED CARD OF 'conclavelaw.VaultAudits'. -/
def vaultAuditsCard : Claim7 := { stood := { row := vaultAuditsRow, standIns := [], harness := (true, "c750e0a39cd87449dcdcec999b2f1a925b41bf1dce19c9463858cda828f8c173"), looks := false }, kinds := [], alts := [], laidByText := true, laidKinds := [.data, .data], laidTests := true, laidLooks := .later }
def VaultAuditsCardSaid : Prop := Claim7.holds Tryd.pinned (.plain (OpenSpec.ofChange vaultAuditsSpec)) vaultAuditsCard

/-- THE TIED CARD OF 'conclavekeep.DoOnce'. -/
def doOnceCard : Claim7 := { stood := { row := doOnceRow, standIns := [], harness := (true, "c750e0a39cd87449dcdcec999b2f1a925b41bf1dce19c9463858cda828f8c173"), looks := false }, kinds := [], alts := [], laidByText := true, laidKinds := [.data], laidTests := true, laidLooks := .later }
def DoOnceCardSaid : Prop := Claim7.holds Tryd.pinned (.plain (OpenSpec.ofChange doOnceSpec)) doOnceCard

/-- THE TIED CARD OF 'conclavekeep.DoValues'. -/
def doValuesCard : Claim7 := { stood := { row := doValuesRow, standIns := [], harness := (true, "c750e0a39cd87449dcdcec999b2f1a925b41bf1dce19c9463858cda828f8c173"), looks := false }, kinds := [], alts := [], laidByText := true, laidKinds := [.data], laidTests := true, laidLooks := .later }
def DoValuesCardSaid : Prop := Claim7.holds Tryd.pinned (.plain (OpenSpec.ofChange doValuesSpec)) doValuesCard

/-- THE SECOND FORM's CARD OF 'conclavelaw.VaultDoes'. -/
def vaultDoesUptoCard : Claim7 := { stood := { row := vaultDoesUptoRow, standIns := [], harness := (true, "c750e0a39cd87449dcdcec999b2f1a925b41bf1dce19c9463858cda828f8c173"), looks := false }, kinds := [], alts := [], laidByText := true, laidKinds := [.data], laidTests := true, laidLooks := .later }
def VaultDoesUptoCardSaid : Prop := Claim7.holds Tryd.pinned (.plain (OpenSpec.upto vaultDoesSpec)) vaultDoesUptoCard

/-- THE SECOND FORM's CARD OF 'conclavelaw.VaultChains'. -/
def vaultChainsUptoCard : Claim7 := { stood := { row := vaultChainsUptoRow, standIns := [], harness := (true, "c750e0a39cd87449dcdcec999b2f1a925b41bf1dce19c9463858cda828f8c173"), looks := false }, kinds := [], alts := [], laidByText := true, laidKinds := [.data, .data], laidTests := true, laidLooks := .later }
def VaultChainsUptoCardSaid : Prop := Claim7.holds Tryd.pinned (.plain (OpenSpec.upto vaultChainsSpec)) vaultChainsUptoCard

/-- THE SECOND FORM's CARD OF 'conclavelaw.VaultAudits'. -/
def vaultAuditsUptoCard : Claim7 := { stood := { row := vaultAuditsUptoRow, standIns := [], harness := (true, "c750e0a39cd87449dcdcec999b2f1a925b41bf1dce19c9463858cda828f8c173"), looks := false }, kinds := [], alts := [], laidByText := true, laidKinds := [.data, .data], laidTests := true, laidLooks := .later }
def VaultAuditsUptoCardSaid : Prop := Claim7.holds Tryd.pinned (.plain (OpenSpec.upto vaultAuditsSpec)) vaultAuditsUptoCard

/-- THE SECOND FORM's CARD OF 'conclavekeep.DoOnce'. -/
def doOnceUptoCard : Claim7 := { stood := { row := doOnceUptoRow, standIns := [], harness := (true, "c750e0a39cd87449dcdcec999b2f1a925b41bf1dce19c9463858cda828f8c173"), looks := false }, kinds := [], alts := [], laidByText := true, laidKinds := [.data], laidTests := true, laidLooks := .later }
def DoOnceUptoCardSaid : Prop := Claim7.holds Tryd.pinned (.plain (OpenSpec.upto doOnceSpec)) doOnceUptoCard

/-- THE SECOND FORM's CARD OF 'conclavekeep.DoValues'. -/
def doValuesUptoCard : Claim7 := { stood := { row := doValuesUptoRow, standIns := [], harness := (true, "c750e0a39cd87449dcdcec999b2f1a925b41bf1dce19c9463858cda828f8c173"), looks := false }, kinds := [], alts := [], laidByText := true, laidKinds := [.data], laidTests := true, laidLooks := .later }
def DoValuesUptoCardSaid : Prop := Claim7.holds Tryd.pinned (.plain (OpenSpec.upto doValuesSpec)) doValuesUptoCard
end Rows
end Go.Proofs.YtmpefofifbehjaaDoor
