/-
  What the proofs of the cards of this seat share: the table in memory, and the opening of bytes.
-/
import Derived.Test.YtakgfdbjgeopdabDoorCards
import Derived.Test.YtakgfdbjgeopdabDoorTie
import Derived.Test.YtakgfdbjgeopdabDoorMixWalk
import Derived.WalkKit
import Derived.ProofKit
import Derived.OpenShut
import Derived.SizedLaws
import Derived.ChangeOld
import Derived.Deep.DeepHandedRow
import Derived.Lib.LaidTab
namespace Go.Proofs.YtakgfdbjgeopdabDoor
open Go.ChangeShapes Go.WideShapes Go.ChangeAt Go.RowKit

theorem own : ownKnob Tryd.prog.godebug = none := by kernel_rfl
theorem laidOut : laidOutB Tryd.prog = true := by kernel_rfl
theorem cells5 : Tryd.prog.cellsOf 5 = 1 := by kernel_rfl
theorem bytes5 : Tryd.prog.bytesOf 5 = 1 := by kernel_rfl
theorem gTab : Tryd.prog.globalNamed "conclave/sha.roundWords" = some 1 := by kernel_rfl
theorem gTabType : (Tryd.prog.globals[1]?).map (·.type) = some 92 := by kernel_rfl
theorem cells41 : Tryd.prog.cellsOf 92 = 64 := by kernel_rfl
theorem cells38 : Tryd.prog.cellsOf 89 = 1 := by kernel_rfl

theorem kTab_word (i : Nat) (hi : i < 64) : kTab.getD i 0 = uw (kAt i) := by
  have all : ∀ j : Fin 64, kTab.getD j.val 0 = uw (kAt j.val) := by decide +kernel
  exact all ⟨i, hi⟩

theorem table {W : World} (h : laidMetH Tryd.prog [("conclave/sha.roundWords", Rows.laid_conclave_sha_roundWords)] W) : TabAt W := by
  have ht : Lib.TabIs Tryd.prog W "conclave/sha.roundWords" .u32 kTab :=
    Lib.tabIs_of_head (rest := []) gTab gTabType Tryd.underlying92 Tryd.underlying89 cells38 cells41 h
  have hc : ∀ i, i < 64 → W.cell? ⟨1, i, none⟩ = some (.int .u32 (uw (kAt i))) := fun i hi => by
    rw [← kTab_word i hi]
    exact ht.cell gTab i hi
  exact ⟨World.block_lt_of_cell? W ⟨1, 0, none⟩ (hc 0 (by omega)), hc⟩

/-- a world for the witness: the settled one, the table holding what its initialiser lays -/
def IsLaid (os : Os) (W : World) : Prop :=
  W = { World.holding Tryd.prog os ⟨#[], #[], []⟩ with heap := (World.holding Tryd.prog os ⟨#[], #[], []⟩).heap.modify 1 fun
      | .cells _ t frozen => .cells (kTab.map (Value.int .u32)).toArray t frozen
      | o => o }
theorem ex_laid (os : Os) : ∃ W, IsLaid os W := ⟨_, rfl⟩
end Go.Proofs.YtakgfdbjgeopdabDoor
