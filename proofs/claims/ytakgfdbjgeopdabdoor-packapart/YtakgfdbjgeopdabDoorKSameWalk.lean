/-
  The walk of the keeping statements' comparison.
-/
import Derived.Test.YtakgfdbjgeopdabDoorInfo
namespace Go.Proofs.YtakgfdbjgeopdabDoor
open Go.RowKit

theorem keep_same (va vb : Value) (la lb : List Int) (w : World) (ha : Sl w va la) (hb : Sl w vb lb) :
    Calls Tryd.prog 9 #[va, vb] w fun e w' => e = .returned (.bool (decide (la = lb))) ∧ w' = w := by
  have c1 := run_convert_sl (P := Tryd.prog) w 23 9 5 Tryd.underlying23 Tryd.underlying5 Tryd.underlying9 va la ha
  have c2 := run_convert_sl (P := Tryd.prog) w 23 9 5 Tryd.underlying23 Tryd.underlying5 Tryd.underlying9 vb lb hb
  have e := strOfNums_inj ha.byte hb.byte
  have H : Hid (strOfNums la = strOfNums lb ↔ la = lb) := e
  clear e
  go_enter Tryd.func9, Tryd.ntmps9
  go_wp2
  go_ret
  refine ⟨ret_bool ?_, rfl⟩
  have h := H.out
  rw [Bool.eq_iff_iff, decide_eq_true_iff, ← h, beq_iff_eq]
  exact ⟨fun e => ByteArray.ext (Array.ext' (by rw [← ba_toList, ← ba_toList, e])), fun e => by rw [e]⟩
end Go.Proofs.YtakgfdbjgeopdabDoor
