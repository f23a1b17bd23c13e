/-
  The walk of the document's numbers that a channel has met.
-/
import Derived.Test.YtpoaabjpeigooaaLineSpec
import Derived.Test.YtpoaabjpeigooaaShapes
import Derived.Test.YtpoaabjpeigooaaDigRow
namespace Go.Proofs.Ytpoaabjpeigooaa
open Go.RowKit

set_option maxHeartbeats 1000000 in
theorem met_any (k : Value) (s t : Int) (l : List Bool) (w : World) (hl : l.length = 8) (t0 : 0 ≤ t) (t1 : t ≤ 1073741824) :
    Calls Try.prog 16 #[.agg (chA k s t l)] w fun e w' => ∃ v', e = .returned v' ∧ w'.ownsRow w.heap.size 3 1 v' (metL t l 8).length ((metL t l 8).map (Value.int .i64)) ∧ Below w.heap.size w w' := by
  have hs : (chA k s t l).size = 11 := by rw [chA_size, hl]
  have HT : Hid ((chA k s t l)[2]? = some (.int .i64 t)) := chA_top k s t l
  have HS : Hid (∀ i, i < 8 → (chA k s t l)[3 + i]? = some (.bool (l.getD i false))) := fun i hi => chA_seen k s t l i (by omega)
  generalize chA k s t l = A at hs HT HS ⊢
  go_enter Try.func16, Try.ntmps16
  go_wp2_with fail
  have hrow : (w.alloc (.cells A 25)).heap[w.heap.size]? = some (.cells A 25 (0, 0)) := heap_alloc_new _ _
  have hsz : (w.alloc (.cells A 25)).heap.size = w.heap.size + 1 := by simp
  have b0 : Below w.heap.size w (w.alloc (.cells A 25)) := (Below.refl _ _).alloc (Nat.le_refl _) _
  generalize w.alloc (.cells A 25) = W0 at hrow hsz b0 ⊢
  go_loopw [3, 4] (fun v iv wr => ∃ i : Nat, i ≤ 8 ∧ iv = .int .i64 i ∧ wr.ownsRow (w.heap.size + 1) 3 1 v (metL t l i).length ((metL t l i).map (Value.int .i64)) ∧ Below (w.heap.size + 1) W0 wr) (fun _ iv _ => 8 - (intOf iv).toNat)
  case atStart => exact ⟨0, by omega, rfl, World.ownsRow_nil _ _ _ _, Below.refl _ _⟩
  case round =>
    obtain ⟨i, hi, rfl, hown, hbel⟩ := hrel
    have hlt := hown.lt
    have hml := metL_length t l i
    by_cases hi8 : i < 8
    · have hii : (i : Int) < 8 := by omega
      have r1 := (hbel.block w.heap.size (by omega)).trans hrow
      have cs := (cell_of_row _ _ (3 + i) _ _ _ r1).trans (HS.out i hi8)
      have ct := (cell_of_row _ _ 2 _ _ _ r1).trans HT.out
      have hwz := hbel.size
      cases hb : l.getD i false with
      | true =>
        rw [hb] at cs
        have HM : Hid (metL t l (i + 1) = metL t l i ++ [t - 8 + (i : Int)]) := by unfold Hid; rw [metL, hb]; rfl
        generalize metL t l i = M at hown hml HM
        clear hb r1
        go_wp2_with (at_builtin; refine wpList_append_digit _ rfl _ _ rfl (w.heap.size + 1) _ M wr.heap.size (t - 8 + (i : Int)) rfl rfl (hown.alloc _) (by simp) (by omega) (by simp; omega) ?_)
        intro v2 w2 ho2 hg2
        have hb2 : Below (w.heap.size + 1) W0 w2 := (hbel.alloc (by omega) _).grown hg2 (by simp; omega) (fun k hk => (hlt k hk).1)
        have HO2 : Hid (w2.ownsRow (w.heap.size + 1) 3 1 v2 (M ++ [t - 8 + (i : Int)]).length ((M ++ [t - 8 + (i : Int)]).map (Value.int .i64))) := by
          unfold Hid
          simpa using ho2
        clear ho2 hg2 hown hlt hbel cs ct
        go_wp2
        go_roundw
        case rel => exact ⟨i + 1, by omega, by go_num, by rw [HM.out]; exact HO2.out, hb2⟩
        case measure => simp [intOf]; omega
      | false =>
        rw [hb] at cs
        have HM : Hid (metL t l (i + 1) = metL t l i) := by unfold Hid; rw [metL, hb]; rfl
        clear hb r1
        go_wp2
        go_roundw
        case rel => exact ⟨i + 1, by omega, by go_num, by rw [HM.out]; exact hown, hbel⟩
        case measure => simp [intOf]; omega
    · obtain rfl : i = 8 := by omega
      rw [show ((8 : Nat) : Int) = 8 from rfl]
      have hbw : Below w.heap.size w wr := b0.trans (hbel.mono (by omega))
      have HO : Hid _ := owns_lower hown (show w.heap.size ≤ w.heap.size + 1 by omega)
      clear hown hlt hbel
      go_wp2
      go_ret
      exact ⟨_, rfl, HO.out, hbw⟩
end Go.Proofs.Ytpoaabjpeigooaa
