/-
  NARROWER THAN 'FOR EVERY INPUT', by the rows' own cells (each row's printed sentence says how): DoRevoked: laid · DoNoop: laid · ChainTells: laid · ChainCut: laid · AuditRight: laid · AuditCut: laid.
  DERIVED. THE GIVEN ROWS OF THIS SEAT. 6 by the template 'for every input the law returns true; each argument reads behind the call as it read before'; 0 by the template 'total and deterministic' (their statements: YtmpefofifbehjabDoorTotals.lean).
  GIVEN WITH THE SEED: the statements are not yours to turn. If you find one false, say at which input.
  Laid BY PROGRAM, IN A SANDBOX (cutbox-rows.mjs): the forced cells as the released guide's own fill.sh prints them over the translation 2c761b73f0981669… (all of the seat's roots in one cut). By AI agents, Wed Nov 11 2026. No macro, syntax, notation, axiom, sorry.
-/
import Derived.Test.YtmpefofifbehjabDoorChecked
import GoSem.Claim
import GoSem.ClaimJoined
import GoSem.ClaimMapViews
import Derived.JoinedTies
import Derived.KernelRfl
namespace Go.Proofs.YtmpefofifbehjabDoor
/- THE CELL 'sum', in the pinned program and in every row, IS THE sha256 OF THE DUMP (.gsa) THAT YtmpefofifbehjabDoorProg.lean LOADS. Nothing in Lean hashes anything: it is a label: what it is worth is what the hold of that sum in a sandbox is worth. -/
noncomputable def Tryd.pinned : Pinned := { name := "ytmpefofifbehjabdoor", sum := "2c761b73f0981669d1e1b84ae96ec60542ddd1fd0f67050e3528d4323b49bc0d", checked := Tryd.checked }
namespace Rows
def none {H : Type} : Left H := { results := [], args := [] }

/- WHAT THE LISTED PACKAGE-LEVEL VARIABLES READ AS WHEN THE CALL BEGINS. Each datum BY PROGRAM (the guide's laid-datum.mjs) off the statement by which the dump's own 'gosem.cut.vars' lays the variable. In a bare row this is a premise. The card (YtmpefofifbehjabDoorCards.lean) ties it to the program's text. -/
def laid_conclave_order_needs {H : Type} : DataW H := .agg [.agg [.lit (.int .i64 0), .lit (.int .i64 0), .lit (.int .i64 0)], .agg [.lit (.int .i64 2), .lit (.int .i64 7), .lit (.int .i64 1073741824)], .agg [.lit (.int .i64 1), .lit (.int .i64 7), .lit (.int .i64 0)], .agg [.lit (.int .i64 4), .lit (.int .i64 7), .lit (.int .i64 0)]]
def laid_conclave_sha_roundWords {H : Type} : DataW H := .agg [.lit (.int .u32 1116352408), .lit (.int .u32 1899447441), .lit (.int .u32 3049323471), .lit (.int .u32 3921009573), .lit (.int .u32 961987163), .lit (.int .u32 1508970993), .lit (.int .u32 2453635748), .lit (.int .u32 2870763221), .lit (.int .u32 3624381080), .lit (.int .u32 310598401), .lit (.int .u32 607225278), .lit (.int .u32 1426881987), .lit (.int .u32 1925078388), .lit (.int .u32 2162078206), .lit (.int .u32 2614888103), .lit (.int .u32 3248222580), .lit (.int .u32 3835390401), .lit (.int .u32 4022224774), .lit (.int .u32 264347078), .lit (.int .u32 604807628), .lit (.int .u32 770255983), .lit (.int .u32 1249150122), .lit (.int .u32 1555081692), .lit (.int .u32 1996064986), .lit (.int .u32 2554220882), .lit (.int .u32 2821834349), .lit (.int .u32 2952996808), .lit (.int .u32 3210313671), .lit (.int .u32 3336571891), .lit (.int .u32 3584528711), .lit (.int .u32 113926993), .lit (.int .u32 338241895), .lit (.int .u32 666307205), .lit (.int .u32 773529912), .lit (.int .u32 1294757372), .lit (.int .u32 1396182291), .lit (.int .u32 1695183700), .lit (.int .u32 1986661051), .lit (.int .u32 2177026350), .lit (.int .u32 2456956037), .lit (.int .u32 2730485921), .lit (.int .u32 2820302411), .lit (.int .u32 3259730800), .lit (.int .u32 3345764771), .lit (.int .u32 3516065817), .lit (.int .u32 3600352804), .lit (.int .u32 4094571909), .lit (.int .u32 275423344), .lit (.int .u32 430227734), .lit (.int .u32 506948616), .lit (.int .u32 659060556), .lit (.int .u32 883997877), .lit (.int .u32 958139571), .lit (.int .u32 1322822218), .lit (.int .u32 1537002063), .lit (.int .u32 1747873779), .lit (.int .u32 1955562222), .lit (.int .u32 2024104815), .lit (.int .u32 2227730452), .lit (.int .u32 2361852424), .lit (.int .u32 2428436474), .lit (.int .u32 2756734187), .lit (.int .u32 3204031479), .lit (.int .u32 3329325298)]

/-- 'conclavekeep.DoRevoked': WHATEVER THE INPUT: true; the input reads as it did. -/
def doRevokedSpec : ChangeSpec := { name := "doRevoked", fn := fun _ => fun
  | [d1, d2, d3] => { results := [.lit (.bool true)], args := [d1, d2, d3] }
  | _ => none }
def doRevokedRow : OpenClaim := { program := "ytmpefofifbehjabdoor", sum := "2c761b73f0981669d1e1b84ae96ec60542ddd1fd0f67050e3528d4323b49bc0d", func := "conclave/conclavekeep.DoRevoked", spec := "doRevoked", named := ["conclave/order.needs"], apart := false, laid := [("conclave/order.needs", laid_conclave_order_needs)] }
def DoRevokedSaid : Prop := doRevokedRow.holds Tryd.pinned (OpenSpec.ofChange doRevokedSpec)

/-- ITS FALSE NEIGHBOUR: 'it returns false'. Refute it at one input. -/
def doRevokedWrong : ChangeSpec := { name := "doRevoked", fn := fun _ => fun
  | [d1, d2, d3] => { results := [.lit (.bool false)], args := [d1, d2, d3] }
  | _ => none }
def DoRevokedWrongFalsely : Prop := doRevokedRow.holds Tryd.pinned (OpenSpec.ofChange doRevokedWrong)

/-- 'conclavekeep.DoNoop': WHATEVER THE INPUT: true; the input reads as it did. -/
def doNoopSpec : ChangeSpec := { name := "doNoop", fn := fun _ => fun
  | [d1, d2] => { results := [.lit (.bool true)], args := [d1, d2] }
  | _ => none }
def doNoopRow : OpenClaim := { program := "ytmpefofifbehjabdoor", sum := "2c761b73f0981669d1e1b84ae96ec60542ddd1fd0f67050e3528d4323b49bc0d", func := "conclave/conclavekeep.DoNoop", spec := "doNoop", named := ["conclave/order.needs"], apart := false, laid := [("conclave/order.needs", laid_conclave_order_needs)] }
def DoNoopSaid : Prop := doNoopRow.holds Tryd.pinned (OpenSpec.ofChange doNoopSpec)

/-- ITS FALSE NEIGHBOUR: 'it returns false'. Refute it at one input. -/
def doNoopWrong : ChangeSpec := { name := "doNoop", fn := fun _ => fun
  | [d1, d2] => { results := [.lit (.bool false)], args := [d1, d2] }
  | _ => none }
def DoNoopWrongFalsely : Prop := doNoopRow.holds Tryd.pinned (OpenSpec.ofChange doNoopWrong)

/-- 'conclavekeep.ChainTells': WHATEVER THE INPUT: true; the input reads as it did. -/
def chainTellsSpec : ChangeSpec := { name := "chainTells", fn := fun _ => fun
  | [d] => { results := [.lit (.bool true)], args := [d] }
  | _ => none }
def chainTellsRow : OpenClaim := { program := "ytmpefofifbehjabdoor", sum := "2c761b73f0981669d1e1b84ae96ec60542ddd1fd0f67050e3528d4323b49bc0d", func := "conclave/conclavekeep.ChainTells", spec := "chainTells", named := ["conclave/order.needs", "conclave/sha.roundWords"], apart := false, laid := [("conclave/sha.roundWords", laid_conclave_sha_roundWords), ("conclave/order.needs", laid_conclave_order_needs)] }
def ChainTellsSaid : Prop := chainTellsRow.holds Tryd.pinned (OpenSpec.ofChange chainTellsSpec)

/-- ITS FALSE NEIGHBOUR: 'it returns false'. Refute it at one input. -/
def chainTellsWrong : ChangeSpec := { name := "chainTells", fn := fun _ => fun
  | [d] => { results := [.lit (.bool false)], args := [d] }
  | _ => none }
def ChainTellsWrongFalsely : Prop := chainTellsRow.holds Tryd.pinned (OpenSpec.ofChange chainTellsWrong)

/-- 'conclavekeep.ChainCut': WHATEVER THE INPUT: true; the input reads as it did. -/
def chainCutSpec : ChangeSpec := { name := "chainCut", fn := fun _ => fun
  | [d1, d2] => { results := [.lit (.bool true)], args := [d1, d2] }
  | _ => none }
def chainCutRow : OpenClaim := { program := "ytmpefofifbehjabdoor", sum := "2c761b73f0981669d1e1b84ae96ec60542ddd1fd0f67050e3528d4323b49bc0d", func := "conclave/conclavekeep.ChainCut", spec := "chainCut", named := ["conclave/order.needs", "conclave/sha.roundWords"], apart := false, laid := [("conclave/sha.roundWords", laid_conclave_sha_roundWords), ("conclave/order.needs", laid_conclave_order_needs)] }
def ChainCutSaid : Prop := chainCutRow.holds Tryd.pinned (OpenSpec.ofChange chainCutSpec)

/-- ITS FALSE NEIGHBOUR: 'it returns false'. Refute it at one input. -/
def chainCutWrong : ChangeSpec := { name := "chainCut", fn := fun _ => fun
  | [d1, d2] => { results := [.lit (.bool false)], args := [d1, d2] }
  | _ => none }
def ChainCutWrongFalsely : Prop := chainCutRow.holds Tryd.pinned (OpenSpec.ofChange chainCutWrong)

/-- 'conclavekeep.AuditRight': WHATEVER THE INPUT: true; the input reads as it did. -/
def auditRightSpec : ChangeSpec := { name := "auditRight", fn := fun _ => fun
  | [d1, d2, d3, d4] => { results := [.lit (.bool true)], args := [d1, d2, d3, d4] }
  | _ => none }
def auditRightRow : OpenClaim := { program := "ytmpefofifbehjabdoor", sum := "2c761b73f0981669d1e1b84ae96ec60542ddd1fd0f67050e3528d4323b49bc0d", func := "conclave/conclavekeep.AuditRight", spec := "auditRight", named := ["conclave/order.needs", "conclave/sha.roundWords"], apart := false, laid := [("conclave/sha.roundWords", laid_conclave_sha_roundWords), ("conclave/order.needs", laid_conclave_order_needs)] }
def AuditRightSaid : Prop := auditRightRow.holds Tryd.pinned (OpenSpec.ofChange auditRightSpec)

/-- ITS FALSE NEIGHBOUR: 'it returns false'. Refute it at one input. -/
def auditRightWrong : ChangeSpec := { name := "auditRight", fn := fun _ => fun
  | [d1, d2, d3, d4] => { results := [.lit (.bool false)], args := [d1, d2, d3, d4] }
  | _ => none }
def AuditRightWrongFalsely : Prop := auditRightRow.holds Tryd.pinned (OpenSpec.ofChange auditRightWrong)

/-- 'conclavekeep.AuditCut': WHATEVER THE INPUT: true; the input reads as it did. -/
def auditCutSpec : ChangeSpec := { name := "auditCut", fn := fun _ => fun
  | [d1, d2] => { results := [.lit (.bool true)], args := [d1, d2] }
  | _ => none }
def auditCutRow : OpenClaim := { program := "ytmpefofifbehjabdoor", sum := "2c761b73f0981669d1e1b84ae96ec60542ddd1fd0f67050e3528d4323b49bc0d", func := "conclave/conclavekeep.AuditCut", spec := "auditCut", named := ["conclave/order.needs", "conclave/sha.roundWords"], apart := false, laid := [("conclave/sha.roundWords", laid_conclave_sha_roundWords), ("conclave/order.needs", laid_conclave_order_needs)] }
def AuditCutSaid : Prop := auditCutRow.holds Tryd.pinned (OpenSpec.ofChange auditCutSpec)

/-- ITS FALSE NEIGHBOUR: 'it returns false'. Refute it at one input. -/
def auditCutWrong : ChangeSpec := { name := "auditCut", fn := fun _ => fun
  | [d1, d2] => { results := [.lit (.bool false)], args := [d1, d2] }
  | _ => none }
def AuditCutWrongFalsely : Prop := auditCutRow.holds Tryd.pinned (OpenSpec.ofChange auditCutWrong)

/- THE SECOND FORM. 'bulk': how many values and letters a reading holds, each counted each time it is reached (what is shared counts as often as it is met; a slice's spare places count too). A statement '..UptoSaid' is the law's where the arguments, and the package variables that the reading takes, are together of bulk at most 1048576: NARROWER than '..Said'. Prove '..Said' where nothing that the law and all that it calls make is longer than what came in: it says more and counts as full. Else prove '..UptoSaid'. A law counts once. -/
mutual
def uptoBulk {H : Type} : DataW H → Nat
  | .lit (.string bytes) => bytes.length + 1
  | .lit _ => 1
  | .nil => 1
  | .ptr d => uptoBulk d + 1
  | .slice elems spare => uptoBulkAll elems + uptoBulkAll spare + 1
  | .agg parts => uptoBulkAll parts + 1
  | .iface _ d => uptoBulk d + 1
  | .map entries => uptoBulkEntries entries + 1
  | .held _ => 1
def uptoBulkAll {H : Type} : List (DataW H) → Nat
  | [] => 0
  | d :: r => uptoBulk d + uptoBulkAll r
def uptoBulkEntries {H : Type} : List (Lit × DataW H) → Nat
  | [] => 0
  | x :: r => uptoBulkEntry x + uptoBulkEntries r
def uptoBulkEntry {H : Type} : Lit × DataW H → Nat
  | (.string bytes, d) => bytes.length + uptoBulk d + 1
  | (_, d) => uptoBulk d + 1
 end
def uptoSmall : (H : Type) → List (DataW H) → Bool := fun _ ds => decide (uptoBulkAll ds ≤ 1048576)
def OpenSpec.upto (s : _root_.Go.ChangeSpec) : _root_.Go.OpenSpec := { _root_.Go.OpenSpec.ofChange s with cond := some uptoSmall }

/-- 'conclavekeep.DoRevoked', WHERE WHAT IT READS IS OF BULK AT MOST 1048576: true; the input reads as it did. -/
def doRevokedUptoRow : OpenClaim := { program := "ytmpefofifbehjabdoor", sum := "2c761b73f0981669d1e1b84ae96ec60542ddd1fd0f67050e3528d4323b49bc0d", func := "conclave/conclavekeep.DoRevoked", spec := "doRevoked", named := ["conclave/order.needs"], apart := false, laid := [("conclave/order.needs", laid_conclave_order_needs)], narrowed := true }
def DoRevokedUptoSaid : Prop := doRevokedUptoRow.holds Tryd.pinned (OpenSpec.upto doRevokedSpec)

/-- 'conclavekeep.DoNoop', WHERE WHAT IT READS IS OF BULK AT MOST 1048576: true; the input reads as it did. -/
def doNoopUptoRow : OpenClaim := { program := "ytmpefofifbehjabdoor", sum := "2c761b73f0981669d1e1b84ae96ec60542ddd1fd0f67050e3528d4323b49bc0d", func := "conclave/conclavekeep.DoNoop", spec := "doNoop", named := ["conclave/order.needs"], apart := false, laid := [("conclave/order.needs", laid_conclave_order_needs)], narrowed := true }
def DoNoopUptoSaid : Prop := doNoopUptoRow.holds Tryd.pinned (OpenSpec.upto doNoopSpec)

/-- 'conclavekeep.ChainTells', WHERE WHAT IT READS IS OF BULK AT MOST 1048576: true; the input reads as it did. -/
def chainTellsUptoRow : OpenClaim := { program := "ytmpefofifbehjabdoor", sum := "2c761b73f0981669d1e1b84ae96ec60542ddd1fd0f67050e3528d4323b49bc0d", func := "conclave/conclavekeep.ChainTells", spec := "chainTells", named := ["conclave/order.needs", "conclave/sha.roundWords"], apart := false, laid := [("conclave/sha.roundWords", laid_conclave_sha_roundWords), ("conclave/order.needs", laid_conclave_order_needs)], narrowed := true }
def ChainTellsUptoSaid : Prop := chainTellsUptoRow.holds Tryd.pinned (OpenSpec.upto chainTellsSpec)

/-- 'conclavekeep.ChainCut', WHERE WHAT IT READS IS OF BULK AT MOST 1048576: true; the input reads as it did. -/
def chainCutUptoRow : OpenClaim := { program := "ytmpefofifbehjabdoor", sum := "2c761b73f0981669d1e1b84ae96ec60542ddd1fd0f67050e3528d4323b49bc0d", func := "conclave/conclavekeep.ChainCut", spec := "chainCut", named := ["conclave/order.needs", "conclave/sha.roundWords"], apart := false, laid := [("conclave/sha.roundWords", laid_conclave_sha_roundWords), ("conclave/order.needs", laid_conclave_order_needs)], narrowed := true }
def ChainCutUptoSaid : Prop := chainCutUptoRow.holds Tryd.pinned (OpenSpec.upto chainCutSpec)

/-- 'conclavekeep.AuditRight', WHERE WHAT IT READS IS OF BULK AT MOST 1048576: true; the input reads as it did. -/
def auditRightUptoRow : OpenClaim := { program := "ytmpefofifbehjabdoor", sum := "2c761b73f0981669d1e1b84ae96ec60542ddd1fd0f67050e3528d4323b49bc0d", func := "conclave/conclavekeep.AuditRight", spec := "auditRight", named := ["conclave/order.needs", "conclave/sha.roundWords"], apart := false, laid := [("conclave/sha.roundWords", laid_conclave_sha_roundWords), ("conclave/order.needs", laid_conclave_order_needs)], narrowed := true }
def AuditRightUptoSaid : Prop := auditRightUptoRow.holds Tryd.pinned (OpenSpec.upto auditRightSpec)

/-- 'conclavekeep.AuditCut', WHERE WHAT IT READS IS OF BULK AT MOST 1048576: true; the input reads as it did. -/
def auditCutUptoRow : OpenClaim := { program := "ytmpefofifbehjabdoor", sum := "2c761b73f0981669d1e1b84ae96ec60542ddd1fd0f67050e3528d4323b49bc0d", func := "conclave/conclavekeep.AuditCut", spec := "auditCut", named := ["conclave/order.needs", "conclave/sha.roundWords"], apart := false, laid := [("conclave/sha.roundWords", laid_conclave_sha_roundWords), ("conclave/order.needs", laid_conclave_order_needs)], narrowed := true }
def AuditCutUptoSaid : Prop := auditCutUptoRow.holds Tryd.pinned (OpenSpec.upto auditCutSpec)

end Rows
end Go.Proofs.YtmpefofifbehjabDoor
