/-
  DERIVED. GIVEN WITH THE SEED: THE PROGRAM's TIES (one call each: nine closed facts by the kernel) AND EACH ROW's TIE, after the 31st guide's Derived/Test/Toyas{Tie, Card}.lean. No idea stands in it: it is a product of the set-up. Laid BY PROGRAM, IN A SANDBOX (cutbox-door.mjs). By AI agents, Wed Nov 11 2026. No macro, syntax, notation, axiom, sorry.
-/
import Derived.Test.YtakgfdbjgeopdaaDoorRows
import Derived.LaidByTextLater
import Derived.SevenTiedAt
import Derived.LaidSub
import Derived.LaidOnce
namespace Go.Proofs.YtakgfdbjgeopdaaDoor
open Go
set_option maxRecDepth 100000
theorem seatTie1 : Tryd.prog.laidByTextLater [("conclave/cha.quarters", Rows.laid_conclave_cha_quarters), ("conclave/sha.roundWords", Rows.laid_conclave_sha_roundWords), ("conclave/order.needs", Rows.laid_conclave_order_needs)] [.data, .data, .data] true :=
  Program.laidByTextLater_by_one 36 8 65 (by kernel_rfl) (by kernel_rfl) (by kernel_rfl) (by kernel_rfl) (by kernel_rfl) (by kernel_rfl) (fun _ _ => by kernel_rfl)
theorem noOwnUnsafe : Tryd.pinned.checked.prog.headLifts.contains "ownunsafe" = false := by kernel_rfl
theorem tie : Tryd.prog.laidByTextLater [("conclave/sha.roundWords", Rows.laid_conclave_sha_roundWords)] [.data] true :=
  Program.laidByTextLater.sub seatTie1 ["conclave/sha.roundWords"] (by kernel_rfl) (by kernel_rfl)
theorem mootKeys_row_tie : Rows.mootKeysRow.laidByTextAt .later Tryd.pinned [.data] true :=
  OpenClaim.laidByTextAt_later rfl rfl tie noOwnUnsafe
theorem mootIssuers_row_tie : Rows.mootIssuersRow.laidByTextAt .later Tryd.pinned [.data] true :=
  OpenClaim.laidByTextAt_later rfl rfl tie noOwnUnsafe
theorem tie2 : Tryd.prog.laidByTextLater [("conclave/cha.quarters", Rows.laid_conclave_cha_quarters), ("conclave/sha.roundWords", Rows.laid_conclave_sha_roundWords), ("conclave/order.needs", Rows.laid_conclave_order_needs)] [.data, .data, .data] true :=
  Program.laidByTextLater.sub seatTie1 ["conclave/cha.quarters", "conclave/sha.roundWords", "conclave/order.needs"] (by kernel_rfl) (by kernel_rfl)
theorem packBack_row_tie : Rows.packBackRow.laidByTextAt .later Tryd.pinned [.data, .data, .data] true :=
  OpenClaim.laidByTextAt_later rfl rfl tie2 noOwnUnsafe
theorem mootKeysUpto_row_tie : Rows.mootKeysUptoRow.laidByTextAt .later Tryd.pinned [.data] true :=
  OpenClaim.laidByTextAt_later rfl rfl tie noOwnUnsafe
theorem mootIssuersUpto_row_tie : Rows.mootIssuersUptoRow.laidByTextAt .later Tryd.pinned [.data] true :=
  OpenClaim.laidByTextAt_later rfl rfl tie noOwnUnsafe
theorem packBackUpto_row_tie : Rows.packBackUptoRow.laidByTextAt .later Tryd.pinned [.data, .data, .data] true :=
  OpenClaim.laidByTextAt_later rfl rfl tie2 noOwnUnsafe
end Go.Proofs.YtakgfdbjgeopdaaDoor
