/-
  The tables of words and of bounds in memory. No function of the program is named here.
-/
import Derived.Test.YtlcbebiocmmbaabDoorLinRead
import Derived.Test.YtlcbebiocmmbaabDoorLinStr
namespace Go.Proofs.YtlcbebiocmmbaabDoor
open Go.RowKit
set_option linter.unusedVariables false

/-- which numbers a kind has, by their places -/
def useF (j : Nat) (k : Int) : Bool := if j = 0 then useN k else if j = 1 then useA k else useK k
def bndF (j : Nat) : Int := if j = 0 then 4 else if j = 1 then 1048576 else 100000
/-- how many pieces a kind's line has -/
def oneIf (b : Bool) : Int := if b = true then 1 else 0
def npc (k : Int) : Int := 1 + oneIf (useN k) + oneIf (useA k) + oneIf (useK k) + oneIf (k == 1)
/-- the table of words stands in memory -/
structure LWTab (w : World) : Prop where
  lt : 0 < w.heap.size
  text : ∀ k : Nat, k < 10 → w.cell? ⟨0, 4 * k, none⟩ = some (.string (strOfNums (wordL (k : Int))))
  has : ∀ k j : Nat, k < 10 → j < 3 → w.cell? ⟨0, 4 * k + 1 + j, none⟩ = some (.bool (useF j (k : Int)))
theorem LWTab.below {w w' : World} (h : LWTab w) (hb : Below w.heap.size w w') : LWTab w' :=
  ⟨Nat.lt_of_lt_of_le h.lt hb.size, fun k hk => (hb.cell (p := ⟨0, 4 * k, none⟩) h.lt).trans (h.text k hk), fun k j hk hj => (hb.cell (p := ⟨0, 4 * k + 1 + j, none⟩) h.lt).trans (h.has k j hk hj)⟩
/-- the table of bounds stands in memory -/
structure LBTab (w : World) : Prop where
  lt : 1 < w.heap.size
  bnd : ∀ j : Nat, j < 3 → w.cell? ⟨1, j, none⟩ = some (.int .i64 (bndF j))
theorem LBTab.below {w w' : World} (h : LBTab w) (hb : Below w.heap.size w w') : LBTab w' :=
  ⟨Nat.lt_of_lt_of_le h.lt hb.size, fun j hj => (hb.cell (p := ⟨1, j, none⟩) h.lt).trans (h.bnd j hj)⟩
theorem wSize4 : (Tryd.prog.info? 41).map (·.size) = some 4 := by kernel_rfl
/-- the place of a word -/
theorem runIndexW (k : Nat) (hk : k < 10) (w : World) : (Instr.indexAt 42 (.pointer (some ⟨0, 0, none⟩)) (.int .i64 (k : Int))).run Tryd.prog w = .ok (.pointer (some ⟨0, 4 * k, none⟩)) w := by
  have h := runIndexArr 42 41 10 4 Tryd.underlying42 wSize4 0 0 k hk w
  rwa [Nat.zero_add] at h
/-- the place of one of its marks -/
theorem runIndexM (k j : Nat) (hj : j < 3) (w : World) : (Instr.indexAt 39 (.pointer (some ⟨0, 4 * k + 1, none⟩)) (.int .i64 (j : Int))).run Tryd.prog w = .ok (.pointer (some ⟨0, 4 * k + 1 + j, none⟩)) w := by
  have h := runIndexArr 39 4 3 1 Tryd.underlying39 (by kernel_rfl) 0 (4 * k + 1) j hj w
  rwa [Nat.one_mul] at h
/-- the place of a bound -/
theorem runIndexB (j : Nat) (hj : j < 3) (w : World) : (Instr.indexAt 43 (.pointer (some ⟨1, 0, none⟩)) (.int .i64 (j : Int))).run Tryd.prog w = .ok (.pointer (some ⟨1, j, none⟩)) w := by
  have h := runIndexArr 43 3 3 1 Tryd.underlying43 (by kernel_rfl) 1 0 j hj w
  rwa [Nat.zero_add, Nat.one_mul] at h
end Go.Proofs.YtlcbebiocmmbaabDoor
