/-
  NARROWER THAN 'FOR EVERY INPUT', by the rows' own cells (each row's printed sentence says how): SealSeals: laid · SealOpens: laid · SealBack: laid · OpenFixed: laid · SealMixed: laid · SealTag: laid.
  DERIVED. THE GIVEN ROWS OF THIS SEAT. 6 by the template 'for every input the law returns true; each argument reads behind the call as it read before'; 0 by the template 'total and deterministic' (their statements: YtlpgbdjchifhmaaDoorTotals.lean).
  GIVEN WITH THE SEED: the statements are not yours to turn. If you find one false, say at which input.
  Laid BY PROGRAM, IN A SANDBOX (cutbox-rows.mjs): the forced cells as the released guide's own fill.sh prints them over the translation e41dc125a8cf253c… (all of the seat's roots in one cut). By AI agents, Wed Nov 11 2026. No macro, syntax, notation, axiom, sorry.
-/
import Derived.Test.YtlpgbdjchifhmaaDoorChecked
import GoSem.Claim
import GoSem.ClaimJoined
import GoSem.ClaimMapViews
import Derived.JoinedTies
import Derived.KernelRfl
namespace Go.Proofs.YtlpgbdjchifhmaaDoor
/- THE CELL 'sum', in the pinned program and in every row, IS THE sha256 OF THE DUMP (.gsa) THAT YtlpgbdjchifhmaaDoorProg.lean LOADS. Nothing in Lean hashes anything: it is a label: what it is worth is what the hold of that sum in a sandbox is worth. -/
noncomputable def Tryd.pinned : Pinned := { name := "ytlpgbdjchifhmaadoor", sum := "e41dc125a8cf253ca135d9efe790eea200bcfa7f3e58d075c693ec9e42ae6198", checked := Tryd.checked }
namespace Rows
def none {H : Type} : Left H := { results := [], args := [] }

/- WHAT THE LISTED PACKAGE-LEVEL VARIABLES READ AS WHEN THE CALL BEGINS. Each datum BY PROGRAM (the guide's laid-datum.mjs) off the statement by which the dump's own 'gosem.cut.vars' lays the variable. In a bare row this is a premise. The card (YtlpgbdjchifhmaaDoorCards.lean) ties it to the program's text. -/
def laid_conclave_cha_quarters {H : Type} : DataW H := .agg [.agg [.lit (.int .i64 0), .lit (.int .i64 4), .lit (.int .i64 8), .lit (.int .i64 12)], .agg [.lit (.int .i64 1), .lit (.int .i64 5), .lit (.int .i64 9), .lit (.int .i64 13)], .agg [.lit (.int .i64 2), .lit (.int .i64 6), .lit (.int .i64 10), .lit (.int .i64 14)], .agg [.lit (.int .i64 3), .lit (.int .i64 7), .lit (.int .i64 11), .lit (.int .i64 15)], .agg [.lit (.int .i64 0), .lit (.int .i64 5), .lit (.int .i64 10), .lit (.int .i64 15)], .agg [.lit (.int .i64 1), .lit (.int .i64 6), .lit (.int .i64 11), .lit (.int .i64 12)], .agg [.lit (.int .i64 2), .lit (.int .i64 7), .lit (.int .i64 8), .lit (.int .i64 13)], .agg [.lit (.int .i64 3), .lit (.int .i64 4), .lit (.int .i64 9), .lit (.int .i64 14)]]

/-- 'conclavelaw.SealSeals': WHATEVER THE INPUT: true; the input reads as it did. -/
def sealSealsSpec : ChangeSpec := { name := "sealSeals", fn := fun _ => fun
  | [d1, d2, d3, d4] => { results := [.lit (.bool true)], args := [d1, d2, d3, d4] }
  | _ => none }
def sealSealsRow : OpenClaim := { program := "ytlpgbdjchifhmaadoor", sum := "e41dc125a8cf253ca135d9efe790eea200bcfa7f3e58d075c693ec9e42ae6198", func := "conclave/conclavelaw.SealSeals", spec := "sealSeals", named := ["conclave/cha.quarters"], apart := false, laid := [("conclave/cha.quarters", laid_conclave_cha_quarters)] }
def SealSealsSaid : Prop := sealSealsRow.holds Tryd.pinned (OpenSpec.ofChange sealSealsSpec)

/-- ITS FALSE NEIGHBOUR: 'it returns false'. Refute it at one input. -/
def sealSealsWrong : ChangeSpec := { name := "sealSeals", fn := fun _ => fun
  | [d1, d2, d3, d4] => { results := [.lit (.bool false)], args := [d1, d2, d3, d4] }
  | _ => none }
def SealSealsWrongFalsely : Prop := sealSealsRow.holds Tryd.pinned (OpenSpec.ofChange sealSealsWrong)

/-- 'conclavelaw.SealOpens': WHATEVER THE INPUT: true; the input reads as it did. -/
def sealOpensSpec : ChangeSpec := { name := "sealOpens", fn := fun _ => fun
  | [d1, d2, d3, d4] => { results := [.lit (.bool true)], args := [d1, d2, d3, d4] }
  | _ => none }
def sealOpensRow : OpenClaim := { program := "ytlpgbdjchifhmaadoor", sum := "e41dc125a8cf253ca135d9efe790eea200bcfa7f3e58d075c693ec9e42ae6198", func := "conclave/conclavelaw.SealOpens", spec := "sealOpens", named := ["conclave/cha.quarters"], apart := false, laid := [("conclave/cha.quarters", laid_conclave_cha_quarters)] }
def SealOpensSaid : Prop := sealOpensRow.holds Tryd.pinned (OpenSpec.ofChange sealOpensSpec)

/-- ITS FALSE NEIGHBOUR: 'it returns false'. Refute it at one input. -/
def sealOpensWrong : ChangeSpec := { name := "sealOpens", fn := fun _ => fun
  | [d1, d2, d3, d4] => { results := [.lit (.bool false)], args := [d1, d2, d3, d4] }
  | _ => none }
def SealOpensWrongFalsely : Prop := sealOpensRow.holds Tryd.pinned (OpenSpec.ofChange sealOpensWrong)

/-- 'conclavekeep.SealBack': WHATEVER THE INPUT: true; the input reads as it did. -/
def sealBackSpec : ChangeSpec := { name := "sealBack", fn := fun _ => fun
  | [d1, d2, d3, d4] => { results := [.lit (.bool true)], args := [d1, d2, d3, d4] }
  | _ => none }
def sealBackRow : OpenClaim := { program := "ytlpgbdjchifhmaadoor", sum := "e41dc125a8cf253ca135d9efe790eea200bcfa7f3e58d075c693ec9e42ae6198", func := "conclave/conclavekeep.SealBack", spec := "sealBack", named := ["conclave/cha.quarters"], apart := false, laid := [("conclave/cha.quarters", laid_conclave_cha_quarters)] }
def SealBackSaid : Prop := sealBackRow.holds Tryd.pinned (OpenSpec.ofChange sealBackSpec)

/-- ITS FALSE NEIGHBOUR: 'it returns false'. Refute it at one input. -/
def sealBackWrong : ChangeSpec := { name := "sealBack", fn := fun _ => fun
  | [d1, d2, d3, d4] => { results := [.lit (.bool false)], args := [d1, d2, d3, d4] }
  | _ => none }
def SealBackWrongFalsely : Prop := sealBackRow.holds Tryd.pinned (OpenSpec.ofChange sealBackWrong)

/-- 'conclavekeep.OpenFixed': WHATEVER THE INPUT: true; the input reads as it did. -/
def openFixedSpec : ChangeSpec := { name := "openFixed", fn := fun _ => fun
  | [d1, d2, d3, d4] => { results := [.lit (.bool true)], args := [d1, d2, d3, d4] }
  | _ => none }
def openFixedRow : OpenClaim := { program := "ytlpgbdjchifhmaadoor", sum := "e41dc125a8cf253ca135d9efe790eea200bcfa7f3e58d075c693ec9e42ae6198", func := "conclave/conclavekeep.OpenFixed", spec := "openFixed", named := ["conclave/cha.quarters"], apart := false, laid := [("conclave/cha.quarters", laid_conclave_cha_quarters)] }
def OpenFixedSaid : Prop := openFixedRow.holds Tryd.pinned (OpenSpec.ofChange openFixedSpec)

/-- ITS FALSE NEIGHBOUR: 'it returns false'. Refute it at one input. -/
def openFixedWrong : ChangeSpec := { name := "openFixed", fn := fun _ => fun
  | [d1, d2, d3, d4] => { results := [.lit (.bool false)], args := [d1, d2, d3, d4] }
  | _ => none }
def OpenFixedWrongFalsely : Prop := openFixedRow.holds Tryd.pinned (OpenSpec.ofChange openFixedWrong)

/-- 'conclavekeep.SealMixed': WHATEVER THE INPUT: true; the input reads as it did. -/
def sealMixedSpec : ChangeSpec := { name := "sealMixed", fn := fun _ => fun
  | [d1, d2, d3, d4] => { results := [.lit (.bool true)], args := [d1, d2, d3, d4] }
  | _ => none }
def sealMixedRow : OpenClaim := { program := "ytlpgbdjchifhmaadoor", sum := "e41dc125a8cf253ca135d9efe790eea200bcfa7f3e58d075c693ec9e42ae6198", func := "conclave/conclavekeep.SealMixed", spec := "sealMixed", named := ["conclave/cha.quarters"], apart := false, laid := [("conclave/cha.quarters", laid_conclave_cha_quarters)] }
def SealMixedSaid : Prop := sealMixedRow.holds Tryd.pinned (OpenSpec.ofChange sealMixedSpec)

/-- ITS FALSE NEIGHBOUR: 'it returns false'. Refute it at one input. -/
def sealMixedWrong : ChangeSpec := { name := "sealMixed", fn := fun _ => fun
  | [d1, d2, d3, d4] => { results := [.lit (.bool false)], args := [d1, d2, d3, d4] }
  | _ => none }
def SealMixedWrongFalsely : Prop := sealMixedRow.holds Tryd.pinned (OpenSpec.ofChange sealMixedWrong)

/-- 'conclavekeep.SealTag': WHATEVER THE INPUT: true; the input reads as it did. -/
def sealTagSpec : ChangeSpec := { name := "sealTag", fn := fun _ => fun
  | [d1, d2, d3, d4] => { results := [.lit (.bool true)], args := [d1, d2, d3, d4] }
  | _ => none }
def sealTagRow : OpenClaim := { program := "ytlpgbdjchifhmaadoor", sum := "e41dc125a8cf253ca135d9efe790eea200bcfa7f3e58d075c693ec9e42ae6198", func := "conclave/conclavekeep.SealTag", spec := "sealTag", named := ["conclave/cha.quarters"], apart := false, laid := [("conclave/cha.quarters", laid_conclave_cha_quarters)] }
def SealTagSaid : Prop := sealTagRow.holds Tryd.pinned (OpenSpec.ofChange sealTagSpec)

/-- ITS FALSE NEIGHBOUR: 'it returns false'. Refute it at one input. -/
def sealTagWrong : ChangeSpec := { name := "sealTag", fn := fun _ => fun
  | [d1, d2, d3, d4] => { results := [.lit (.bool false)], args := [d1, d2, d3, d4] }
  | _ => none }
def SealTagWrongFalsely : Prop := sealTagRow.holds Tryd.pinned (OpenSpec.ofChange sealTagWrong)

/- THE SECOND FORM. 'bulk': how many values and letters a reading holds, each counted each time it is reached (what is shared counts as often as it is met; a slice's spare places count too). A statement '..UptoSaid' is the law's where the arguments, and the package variables that the reading takes, are together of bulk at most 1048576: NARROWER than '..Said'. Prove '..Said' where nothing that the law and all that it calls make is longer than what came in: it says more and counts as full. Else prove '..UptoSaid'. A law counts once. -/
mutual
def uptoBulk {H : Type} : DataW H → Nat
  | .lit (.string bytes) => bytes.length + 1
  | .lit _ => 1
  | .nil => 1
  | .ptr d => uptoBulk d + 1
  | .slice elems spare => uptoBulkAll elems + uptoBulkAll spare + 1
  | .agg parts => uptoBulkAll parts + 1
  | .iface _ d => uptoBulk d + 1
  | .map entries => uptoBulkEntries entries + 1
  | .held _ => 1
def uptoBulkAll {H : Type} : List (DataW H) → Nat
  | [] => 0
  | d :: r => uptoBulk d + uptoBulkAll r
def uptoBulkEntries {H : Type} : List (Lit × DataW H) → Nat
  | [] => 0
  | x :: r => uptoBulkEntry x + uptoBulkEntries r
def uptoBulkEntry {H : Type} : Lit × DataW H → Nat
  | (.string bytes, d) => bytes.length + uptoBulk d + 1
  | (_, d) => uptoBulk d + 1
 end
def uptoSmall : (H : Type) → List (DataW H) → Bool := fun _ ds => decide (uptoBulkAll ds ≤ 1048576)
def OpenSpec.upto (s : _root_.Go.ChangeSpec) : _root_.Go.OpenSpec := { _root_.Go.OpenSpec.ofChange s with cond := some uptoSmall }

/-- 'conclavelaw.SealSeals', WHERE WHAT IT READS IS OF BULK AT MOST 1048576: true; the input reads as it did. -/
def sealSealsUptoRow : OpenClaim := { program := "ytlpgbdjchifhmaadoor", sum := "e41dc125a8cf253ca135d9efe790eea200bcfa7f3e58d075c693ec9e42ae6198", func := "conclave/conclavelaw.SealSeals", spec := "sealSeals", named := ["conclave/cha.quarters"], apart := false, laid := [("conclave/cha.quarters", laid_conclave_cha_quarters)], narrowed := true }
def SealSealsUptoSaid : Prop := sealSealsUptoRow.holds Tryd.pinned (OpenSpec.upto sealSealsSpec)

/-- 'conclavelaw.SealOpens', WHERE WHAT IT READS IS OF BULK AT MOST 1048576: true; the input reads as it did. -/
def sealOpensUptoRow : OpenClaim := { program := "ytlpgbdjchifhmaadoor", sum := "e41dc125a8cf253ca135d9efe790eea200bcfa7f3e58d075c693ec9e42ae6198", func := "conclave/conclavelaw.SealOpens", spec := "sealOpens", named := ["conclave/cha.quarters"], apart := false, laid := [("conclave/cha.quarters", laid_conclave_cha_quarters)], narrowed := true }
def SealOpensUptoSaid : Prop := sealOpensUptoRow.holds Tryd.pinned (OpenSpec.upto sealOpensSpec)

/-- 'conclavekeep.SealBack', WHERE WHAT IT READS IS OF BULK AT MOST 1048576: true; the input reads as it did. -/
def sealBackUptoRow : OpenClaim := { program := "ytlpgbdjchifhmaadoor", sum := "e41dc125a8cf253ca135d9efe790eea200bcfa7f3e58d075c693ec9e42ae6198", func := "conclave/conclavekeep.SealBack", spec := "sealBack", named := ["conclave/cha.quarters"], apart := false, laid := [("conclave/cha.quarters", laid_conclave_cha_quarters)], narrowed := true }
def SealBackUptoSaid : Prop := sealBackUptoRow.holds Tryd.pinned (OpenSpec.upto sealBackSpec)

/-- 'conclavekeep.OpenFixed', WHERE WHAT IT READS IS OF BULK AT MOST 1048576: true; the input reads as it did. -/
def openFixedUptoRow : OpenClaim := { program := "ytlpgbdjchifhmaadoor", sum := "e41dc125a8cf253ca135d9efe790eea200bcfa7f3e58d075c693ec9e42ae6198", func := "conclave/conclavekeep.OpenFixed", spec := "openFixed", named := ["conclave/cha.quarters"], apart := false, laid := [("conclave/cha.quarters", laid_conclave_cha_quarters)], narrowed := true }
def OpenFixedUptoSaid : Prop := openFixedUptoRow.holds Tryd.pinned (OpenSpec.upto openFixedSpec)

/-- 'conclavekeep.SealMixed', WHERE WHAT IT READS IS OF BULK AT MOST 1048576: true; the input reads as it did. -/
def sealMixedUptoRow : OpenClaim := { program := "ytlpgbdjchifhmaadoor", sum := "e41dc125a8cf253ca135d9efe790eea200bcfa7f3e58d075c693ec9e42ae6198", func := "conclave/conclavekeep.SealMixed", spec := "sealMixed", named := ["conclave/cha.quarters"], apart := false, laid := [("conclave/cha.quarters", laid_conclave_cha_quarters)], narrowed := true }
def SealMixedUptoSaid : Prop := sealMixedUptoRow.holds Tryd.pinned (OpenSpec.upto sealMixedSpec)

/-- 'conclavekeep.SealTag', WHERE WHAT IT READS IS OF BULK AT MOST 1048576: true; the input reads as it did. -/
def sealTagUptoRow : OpenClaim := { program := "ytlpgbdjchifhmaadoor", sum := "e41dc125a8cf253ca135d9efe790eea200bcfa7f3e58d075c693ec9e42ae6198", func := "conclave/conclavekeep.SealTag", spec := "sealTag", named := ["conclave/cha.quarters"], apart := false, laid := [("conclave/cha.quarters", laid_conclave_cha_quarters)], narrowed := true }
def SealTagUptoSaid : Prop := sealTagUptoRow.holds Tryd.pinned (OpenSpec.upto sealTagSpec)

end Rows
end Go.Proofs.YtlpgbdjchifhmaaDoor
