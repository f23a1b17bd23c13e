/-
  The eight clients' keys and the issuer's are all different: their first bytes are. No program is named here.
-/
import Derived.Test.YtakgfdbjgeopdabDoorMoKeyS
namespace Go.Proofs.YtakgfdbjgeopdabDoor
set_option maxRecDepth 100000

theorem key0 : (keyL 0).getD 0 0 = 164 := by decide +kernel
theorem key1 : (keyL 1).getD 0 0 = 62 := by decide +kernel
theorem key2 : (keyL 2).getD 0 0 = 98 := by decide +kernel
theorem key3 : (keyL 3).getD 0 0 = 60 := by decide +kernel
theorem key4 : (keyL 4).getD 0 0 = 104 := by decide +kernel
theorem key5 : (keyL 5).getD 0 0 = 194 := by decide +kernel
theorem key6 : (keyL 6).getD 0 0 = 6 := by decide +kernel
theorem key7 : (keyL 7).getD 0 0 = 18 := by decide +kernel
theorem keyI : issL.getD 0 0 = 184 := by decide +kernel
/-- the first byte of a client's key -/
def firstB (x : Int) : Int := if x = 0 then 164 else if x = 1 then 62 else if x = 2 then 98 else if x = 3 then 60 else if x = 4 then 104 else if x = 5 then 194 else if x = 6 then 6 else 18
theorem key_first {x : Int} (h0 : 0 ≤ x) (h1 : x ≤ 7) : (keyL x).getD 0 0 = firstB x := by
  rcases (by omega : x = 0 ∨ x = 1 ∨ x = 2 ∨ x = 3 ∨ x = 4 ∨ x = 5 ∨ x = 6 ∨ x = 7) with rfl | rfl | rfl | rfl | rfl | rfl | rfl | rfl
  · exact key0
  · exact key1
  · exact key2
  · exact key3
  · exact key4
  · exact key5
  · exact key6
  · exact key7
theorem key_apart {x y : Int} (h0 : 0 ≤ x) (h1 : x ≤ 7) (h2 : 0 ≤ y) (h3 : y ≤ 7) (h : keyL x = keyL y) : x = y := by
  have a := key_first h0 h1
  have b := key_first h2 h3
  rw [h, b] at a
  unfold firstB at a
  repeat' split at a
  all_goals omega
theorem key_iss {x : Int} (h0 : 0 ≤ x) (h1 : x ≤ 7) : keyL x ≠ issL := by
  intro h
  have a := key_first h0 h1
  rw [h, keyI] at a
  unfold firstB at a
  repeat' split at a
  all_goals omega
end Go.Proofs.YtakgfdbjgeopdabDoor
