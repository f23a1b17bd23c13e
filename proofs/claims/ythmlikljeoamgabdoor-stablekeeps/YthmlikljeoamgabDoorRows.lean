/-
  NARROWER THAN 'FOR EVERY INPUT', by the rows' own cells (each row's printed sentence says how): StableBack: laid · StableKeeps: laid · StableTorn: laid · StableAgain: laid · StableSize: laid.
  DERIVED. THE GIVEN ROWS OF THIS SEAT. 5 by the template 'for every input the law returns true; each argument reads behind the call as it read before'; 0 by the template 'total and deterministic' (their statements: YthmlikljeoamgabDoorTotals.lean).
  GIVEN WITH THE SEED: the statements are not yours to turn. If you find one false, say at which input.
  Laid BY PROGRAM, IN A SANDBOX (cutbox-rows.mjs): the forced cells as the released guide's own fill.sh prints them over the translation 5cfd884204a7c356… (all of the seat's roots in one cut). By AI agents, Wed Nov 11 2026. No macro, syntax, notation, axiom, sorry.
-/
import Derived.Test.YthmlikljeoamgabDoorChecked
import GoSem.Claim
import GoSem.ClaimJoined
import GoSem.ClaimMapViews
import Derived.JoinedTies
import Derived.KernelRfl
namespace Go.Proofs.YthmlikljeoamgabDoor
/- THE CELL 'sum', in the pinned program and in every row, IS THE sha256 OF THE DUMP (.gsa) THAT YthmlikljeoamgabDoorProg.lean LOADS. Nothing in Lean hashes anything: it is a label: what it is worth is what the hold of that sum in a sandbox is worth. -/
noncomputable def Tryd.pinned : Pinned := { name := "ythmlikljeoamgabdoor", sum := "5cfd884204a7c3566c7c1c99f29d5af9b2fd5e2ab4e43127013f00a44ecd66e2", checked := Tryd.checked }
namespace Rows
def none {H : Type} : Left H := { results := [], args := [] }

/- WHAT THE LISTED PACKAGE-LEVEL VARIABLES READ AS WHEN THE CALL BEGINS. Each datum BY PROGRAM (the guide's laid-datum.mjs) off the statement by which the dump's own 'gosem.cut.vars' lays the variable. In a bare row this is a premise. The card (YthmlikljeoamgabDoorCards.lean) ties it to the program's text. -/
def laid_conclave_sha_roundWords {H : Type} : DataW H := .agg [.lit (.int .u32 1116352408), .lit (.int .u32 1899447441), .lit (.int .u32 3049323471), .lit (.int .u32 3921009573), .lit (.int .u32 961987163), .lit (.int .u32 1508970993), .lit (.int .u32 2453635748), .lit (.int .u32 2870763221), .lit (.int .u32 3624381080), .lit (.int .u32 310598401), .lit (.int .u32 607225278), .lit (.int .u32 1426881987), .lit (.int .u32 1925078388), .lit (.int .u32 2162078206), .lit (.int .u32 2614888103), .lit (.int .u32 3248222580), .lit (.int .u32 3835390401), .lit (.int .u32 4022224774), .lit (.int .u32 264347078), .lit (.int .u32 604807628), .lit (.int .u32 770255983), .lit (.int .u32 1249150122), .lit (.int .u32 1555081692), .lit (.int .u32 1996064986), .lit (.int .u32 2554220882), .lit (.int .u32 2821834349), .lit (.int .u32 2952996808), .lit (.int .u32 3210313671), .lit (.int .u32 3336571891), .lit (.int .u32 3584528711), .lit (.int .u32 113926993), .lit (.int .u32 338241895), .lit (.int .u32 666307205), .lit (.int .u32 773529912), .lit (.int .u32 1294757372), .lit (.int .u32 1396182291), .lit (.int .u32 1695183700), .lit (.int .u32 1986661051), .lit (.int .u32 2177026350), .lit (.int .u32 2456956037), .lit (.int .u32 2730485921), .lit (.int .u32 2820302411), .lit (.int .u32 3259730800), .lit (.int .u32 3345764771), .lit (.int .u32 3516065817), .lit (.int .u32 3600352804), .lit (.int .u32 4094571909), .lit (.int .u32 275423344), .lit (.int .u32 430227734), .lit (.int .u32 506948616), .lit (.int .u32 659060556), .lit (.int .u32 883997877), .lit (.int .u32 958139571), .lit (.int .u32 1322822218), .lit (.int .u32 1537002063), .lit (.int .u32 1747873779), .lit (.int .u32 1955562222), .lit (.int .u32 2024104815), .lit (.int .u32 2227730452), .lit (.int .u32 2361852424), .lit (.int .u32 2428436474), .lit (.int .u32 2756734187), .lit (.int .u32 3204031479), .lit (.int .u32 3329325298)]
def laid_conclave_order_needs {H : Type} : DataW H := .agg [.agg [.lit (.int .i64 0), .lit (.int .i64 0), .lit (.int .i64 0)], .agg [.lit (.int .i64 2), .lit (.int .i64 7), .lit (.int .i64 1073741824)], .agg [.lit (.int .i64 1), .lit (.int .i64 7), .lit (.int .i64 0)], .agg [.lit (.int .i64 4), .lit (.int .i64 7), .lit (.int .i64 0)]]

/-- 'conclavekeep.StableBack': WHATEVER THE INPUT: true; the input reads as it did. -/
def stableBackSpec : ChangeSpec := { name := "stableBack", fn := fun _ => fun
  | [d] => { results := [.lit (.bool true)], args := [d] }
  | _ => none }
def stableBackRow : OpenClaim := { program := "ythmlikljeoamgabdoor", sum := "5cfd884204a7c3566c7c1c99f29d5af9b2fd5e2ab4e43127013f00a44ecd66e2", func := "conclave/conclavekeep.StableBack", spec := "stableBack", unfollowed := true, recurses := true, named := ["conclave/order.needs", "conclave/sha.roundWords"], apart := false, laid := [("conclave/sha.roundWords", laid_conclave_sha_roundWords), ("conclave/order.needs", laid_conclave_order_needs)] }
def StableBackSaid : Prop := stableBackRow.holds Tryd.pinned (OpenSpec.ofChange stableBackSpec)

/-- ITS FALSE NEIGHBOUR: 'it returns false'. Refute it at one input. -/
def stableBackWrong : ChangeSpec := { name := "stableBack", fn := fun _ => fun
  | [d] => { results := [.lit (.bool false)], args := [d] }
  | _ => none }
def StableBackWrongFalsely : Prop := stableBackRow.holds Tryd.pinned (OpenSpec.ofChange stableBackWrong)

/-- 'conclavekeep.StableKeeps': WHATEVER THE INPUT: true; the input reads as it did. -/
def stableKeepsSpec : ChangeSpec := { name := "stableKeeps", fn := fun _ => fun
  | [d1, d2, d3] => { results := [.lit (.bool true)], args := [d1, d2, d3] }
  | _ => none }
def stableKeepsRow : OpenClaim := { program := "ythmlikljeoamgabdoor", sum := "5cfd884204a7c3566c7c1c99f29d5af9b2fd5e2ab4e43127013f00a44ecd66e2", func := "conclave/conclavekeep.StableKeeps", spec := "stableKeeps", unfollowed := true, recurses := true, named := ["conclave/order.needs", "conclave/sha.roundWords"], apart := false, laid := [("conclave/sha.roundWords", laid_conclave_sha_roundWords), ("conclave/order.needs", laid_conclave_order_needs)] }
def StableKeepsSaid : Prop := stableKeepsRow.holds Tryd.pinned (OpenSpec.ofChange stableKeepsSpec)

/-- ITS FALSE NEIGHBOUR: 'it returns false'. Refute it at one input. -/
def stableKeepsWrong : ChangeSpec := { name := "stableKeeps", fn := fun _ => fun
  | [d1, d2, d3] => { results := [.lit (.bool false)], args := [d1, d2, d3] }
  | _ => none }
def StableKeepsWrongFalsely : Prop := stableKeepsRow.holds Tryd.pinned (OpenSpec.ofChange stableKeepsWrong)

/-- 'conclavekeep.StableTorn': WHATEVER THE INPUT: true; the input reads as it did. -/
def stableTornSpec : ChangeSpec := { name := "stableTorn", fn := fun _ => fun
  | [d1, d2] => { results := [.lit (.bool true)], args := [d1, d2] }
  | _ => none }
def stableTornRow : OpenClaim := { program := "ythmlikljeoamgabdoor", sum := "5cfd884204a7c3566c7c1c99f29d5af9b2fd5e2ab4e43127013f00a44ecd66e2", func := "conclave/conclavekeep.StableTorn", spec := "stableTorn", unfollowed := true, recurses := true, named := ["conclave/order.needs", "conclave/sha.roundWords"], apart := false, laid := [("conclave/sha.roundWords", laid_conclave_sha_roundWords), ("conclave/order.needs", laid_conclave_order_needs)] }
def StableTornSaid : Prop := stableTornRow.holds Tryd.pinned (OpenSpec.ofChange stableTornSpec)

/-- ITS FALSE NEIGHBOUR: 'it returns false'. Refute it at one input. -/
def stableTornWrong : ChangeSpec := { name := "stableTorn", fn := fun _ => fun
  | [d1, d2] => { results := [.lit (.bool false)], args := [d1, d2] }
  | _ => none }
def StableTornWrongFalsely : Prop := stableTornRow.holds Tryd.pinned (OpenSpec.ofChange stableTornWrong)

/-- 'conclavekeep.StableAgain': WHATEVER THE INPUT: true; the input reads as it did. -/
def stableAgainSpec : ChangeSpec := { name := "stableAgain", fn := fun _ => fun
  | [d1, d2, d3] => { results := [.lit (.bool true)], args := [d1, d2, d3] }
  | _ => none }
def stableAgainRow : OpenClaim := { program := "ythmlikljeoamgabdoor", sum := "5cfd884204a7c3566c7c1c99f29d5af9b2fd5e2ab4e43127013f00a44ecd66e2", func := "conclave/conclavekeep.StableAgain", spec := "stableAgain", unfollowed := true, recurses := true, named := ["conclave/order.needs", "conclave/sha.roundWords"], apart := false, laid := [("conclave/sha.roundWords", laid_conclave_sha_roundWords), ("conclave/order.needs", laid_conclave_order_needs)] }
def StableAgainSaid : Prop := stableAgainRow.holds Tryd.pinned (OpenSpec.ofChange stableAgainSpec)

/-- ITS FALSE NEIGHBOUR: 'it returns false'. Refute it at one input. -/
def stableAgainWrong : ChangeSpec := { name := "stableAgain", fn := fun _ => fun
  | [d1, d2, d3] => { results := [.lit (.bool false)], args := [d1, d2, d3] }
  | _ => none }
def StableAgainWrongFalsely : Prop := stableAgainRow.holds Tryd.pinned (OpenSpec.ofChange stableAgainWrong)

/-- 'conclavekeep.StableSize': WHATEVER THE INPUT: true; the input reads as it did. -/
def stableSizeSpec : ChangeSpec := { name := "stableSize", fn := fun _ => fun
  | [d1, d2, d3] => { results := [.lit (.bool true)], args := [d1, d2, d3] }
  | _ => none }
def stableSizeRow : OpenClaim := { program := "ythmlikljeoamgabdoor", sum := "5cfd884204a7c3566c7c1c99f29d5af9b2fd5e2ab4e43127013f00a44ecd66e2", func := "conclave/conclavekeep.StableSize", spec := "stableSize", unfollowed := true, recurses := true, named := ["conclave/order.needs", "conclave/sha.roundWords"], apart := false, laid := [("conclave/sha.roundWords", laid_conclave_sha_roundWords), ("conclave/order.needs", laid_conclave_order_needs)] }
def StableSizeSaid : Prop := stableSizeRow.holds Tryd.pinned (OpenSpec.ofChange stableSizeSpec)

/-- ITS FALSE NEIGHBOUR: 'it returns false'. Refute it at one input. -/
def stableSizeWrong : ChangeSpec := { name := "stableSize", fn := fun _ => fun
  | [d1, d2, d3] => { results := [.lit (.bool false)], args := [d1, d2, d3] }
  | _ => none }
def StableSizeWrongFalsely : Prop := stableSizeRow.holds Tryd.pinned (OpenSpec.ofChange stableSizeWrong)

/- THE SECOND FORM. 'bulk': how many values and letters a reading holds, each counted each time it is reached (what is shared counts as often as it is met; a slice's spare places count too). A statement '..UptoSaid' is the law's where the arguments, and the package variables that the reading takes, are together of bulk at most 1048576: NARROWER than '..Said'. Prove '..Said' where nothing that the law and all that it calls make is longer than what came in: it says more and counts as full. Else prove '..UptoSaid'. A law counts once. -/
mutual
def uptoBulk {H : Type} : DataW H → Nat
  | .lit (.string bytes) => bytes.length + 1
  | .lit _ => 1
  | .nil => 1
  | .ptr d => uptoBulk d + 1
  | .slice elems spare => uptoBulkAll elems + uptoBulkAll spare + 1
  | .agg parts => uptoBulkAll parts + 1
  | .iface _ d => uptoBulk d + 1
  | .map entries => uptoBulkEntries entries + 1
  | .held _ => 1
def uptoBulkAll {H : Type} : List (DataW H) → Nat
  | [] => 0
  | d :: r => uptoBulk d + uptoBulkAll r
def uptoBulkEntries {H : Type} : List (Lit × DataW H) → Nat
  | [] => 0
  | x :: r => uptoBulkEntry x + uptoBulkEntries r
def uptoBulkEntry {H : Type} : Lit × DataW H → Nat
  | (.string bytes, d) => bytes.length + uptoBulk d + 1
  | (_, d) => uptoBulk d + 1
 end
def uptoSmall : (H : Type) → List (DataW H) → Bool := fun _ ds => decide (uptoBulkAll ds ≤ 1048576)
def OpenSpec.upto (s : _root_.Go.ChangeSpec) : _root_.Go.OpenSpec := { _root_.Go.OpenSpec.ofChange s with cond := some uptoSmall }

/-- 'conclavekeep.StableBack', WHERE WHAT IT READS IS OF BULK AT MOST 1048576: true; the input reads as it did. -/
def stableBackUptoRow : OpenClaim := { program := "ythmlikljeoamgabdoor", sum := "5cfd884204a7c3566c7c1c99f29d5af9b2fd5e2ab4e43127013f00a44ecd66e2", func := "conclave/conclavekeep.StableBack", spec := "stableBack", unfollowed := true, recurses := true, named := ["conclave/order.needs", "conclave/sha.roundWords"], apart := false, laid := [("conclave/sha.roundWords", laid_conclave_sha_roundWords), ("conclave/order.needs", laid_conclave_order_needs)], narrowed := true }
def StableBackUptoSaid : Prop := stableBackUptoRow.holds Tryd.pinned (OpenSpec.upto stableBackSpec)

/-- 'conclavekeep.StableKeeps', WHERE WHAT IT READS IS OF BULK AT MOST 1048576: true; the input reads as it did. -/
def stableKeepsUptoRow : OpenClaim := { program := "ythmlikljeoamgabdoor", sum := "5cfd884204a7c3566c7c1c99f29d5af9b2fd5e2ab4e43127013f00a44ecd66e2", func := "conclave/conclavekeep.StableKeeps", spec := "stableKeeps", unfollowed := true, recurses := true, named := ["conclave/order.needs", "conclave/sha.roundWords"], apart := false, laid := [("conclave/sha.roundWords", laid_conclave_sha_roundWords), ("conclave/order.needs", laid_conclave_order_needs)], narrowed := true }
def StableKeepsUptoSaid : Prop := stableKeepsUptoRow.holds Tryd.pinned (OpenSpec.upto stableKeepsSpec)

/-- 'conclavekeep.StableTorn', WHERE WHAT IT READS IS OF BULK AT MOST 1048576: true; the input reads as it did. -/
def stableTornUptoRow : OpenClaim := { program := "ythmlikljeoamgabdoor", sum := "5cfd884204a7c3566c7c1c99f29d5af9b2fd5e2ab4e43127013f00a44ecd66e2", func := "conclave/conclavekeep.StableTorn", spec := "stableTorn", unfollowed := true, recurses := true, named := ["conclave/order.needs", "conclave/sha.roundWords"], apart := false, laid := [("conclave/sha.roundWords", laid_conclave_sha_roundWords), ("conclave/order.needs", laid_conclave_order_needs)], narrowed := true }
def StableTornUptoSaid : Prop := stableTornUptoRow.holds Tryd.pinned (OpenSpec.upto stableTornSpec)

/-- 'conclavekeep.StableAgain', WHERE WHAT IT READS IS OF BULK AT MOST 1048576: true; the input reads as it did. -/
def stableAgainUptoRow : OpenClaim := { program := "ythmlikljeoamgabdoor", sum := "5cfd884204a7c3566c7c1c99f29d5af9b2fd5e2ab4e43127013f00a44ecd66e2", func := "conclave/conclavekeep.StableAgain", spec := "stableAgain", unfollowed := true, recurses := true, named := ["conclave/order.needs", "conclave/sha.roundWords"], apart := false, laid := [("conclave/sha.roundWords", laid_conclave_sha_roundWords), ("conclave/order.needs", laid_conclave_order_needs)], narrowed := true }
def StableAgainUptoSaid : Prop := stableAgainUptoRow.holds Tryd.pinned (OpenSpec.upto stableAgainSpec)

/-- 'conclavekeep.StableSize', WHERE WHAT IT READS IS OF BULK AT MOST 1048576: true; the input reads as it did. -/
def stableSizeUptoRow : OpenClaim := { program := "ythmlikljeoamgabdoor", sum := "5cfd884204a7c3566c7c1c99f29d5af9b2fd5e2ab4e43127013f00a44ecd66e2", func := "conclave/conclavekeep.StableSize", spec := "stableSize", unfollowed := true, recurses := true, named := ["conclave/order.needs", "conclave/sha.roundWords"], apart := false, laid := [("conclave/sha.roundWords", laid_conclave_sha_roundWords), ("conclave/order.needs", laid_conclave_order_needs)], narrowed := true }
def StableSizeUptoSaid : Prop := stableSizeUptoRow.holds Tryd.pinned (OpenSpec.upto stableSizeSpec)

end Rows
end Go.Proofs.YthmlikljeoamgabDoor
