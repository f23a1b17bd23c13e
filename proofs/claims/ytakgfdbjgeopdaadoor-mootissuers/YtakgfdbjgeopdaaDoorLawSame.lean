/-
  The walk of the laws' own comparison of bytes.
-/
import Derived.Test.YtakgfdbjgeopdaaDoorInfo
namespace Go.Proofs.YtakgfdbjgeopdaaDoor
open Go.RowKit

theorem law_same (va vb : Value) (la lb : List Int) (w : World) (ha : Sl w va la) (hb : Sl w vb lb) :
    Calls Tryd.prog 8 #[va, vb] w fun e w' => e = .returned (.bool (decide (la = lb))) ∧ w' = w := by
  have c1 := run_convert_sl (P := Tryd.prog) w 22 9 5 Tryd.underlying22 Tryd.underlying5 Tryd.underlying9 va la ha
  have c2 := run_convert_sl (P := Tryd.prog) w 22 9 5 Tryd.underlying22 Tryd.underlying5 Tryd.underlying9 vb lb hb
  have e := strOfNums_inj ha.byte hb.byte
  have H : Hid (strOfNums la = strOfNums lb ↔ la = lb) := e
  clear e
  go_enter Tryd.func8, Tryd.ntmps8
  go_wp2
  go_ret
  refine ⟨ret_bool ?_, rfl⟩
  have h := H.out
  rw [Bool.eq_iff_iff, decide_eq_true_iff, ← h, beq_iff_eq]
  exact ⟨fun e => ByteArray.ext (Array.ext' (by rw [← ba_toList, ← ba_toList, e])), fun e => by rw [e]⟩
end Go.Proofs.YtakgfdbjgeopdaaDoor
