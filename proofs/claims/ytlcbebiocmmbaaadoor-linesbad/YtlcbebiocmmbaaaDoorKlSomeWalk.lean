/-
  The walk of the first bytes of a list, as a list of its own.
-/
import Derived.Test.YtlcbebiocmmbaaaDoorKl4
namespace Go.Proofs.YtlcbebiocmmbaaaDoor
open Go.RowKit

theorem some_any (v : Value) (l : List Int) (m : Nat) (w : World) (h : Sl w v l) (hm : m ≤ 100000) :
    Calls Tryd.prog 54 #[v, .int .i64 m] w fun e w' => ∃ v', e = .returned v' ∧ w'.ownsRow w.heap.size 5 1 v' (l.take m).length ((l.take m).map (Value.int .u8)) ∧ Below w.heap.size w w' := by
  have hs := h
  obtain ⟨⟨a, cap, rfl, hc, hn, h1⟩, hla, hba⟩ := h
  clear h1 hba
  by_cases hlt : m < l.length
  · have hk := hs.take m (by omega)
    have hlen : (l.take m).length ≤ 100000 := by rw [List.length_take]; omega
    generalize l.take m = L at hk hlen ⊢
    go_enter Tryd.func54, Tryd.ntmps54
    go_wp2_with (at_builtin; refine wpList_append_sl _ rfl _ _ 22 rfl w.heap.size 5 Tryd.underlying22 info5 _ _ rfl rfl [] L (World.ownsRow_nil _ _ _ _) hk (by simp; omega) (Nat.le_refl _) ?_)
    intro v' w' ho hg
    go_wp2
    go_ret
    exact ⟨v', rfl, by simpa using ho, (Below.refl _ _).grown hg (Nat.le_refl _) (by simp [Value.ownBlock])⟩
  · have hk : l.take m = l := List.take_of_length_le (by omega)
    rw [hk]
    go_enter Tryd.func54, Tryd.ntmps54
    go_wp2_with (at_builtin; refine wpList_append_sl _ rfl _ _ 22 rfl w.heap.size 5 Tryd.underlying22 info5 _ _ rfl rfl [] l (World.ownsRow_nil _ _ _ _) hs (by simp; omega) (Nat.le_refl _) ?_)
    intro v' w' ho hg
    go_wp2
    go_ret
    exact ⟨v', rfl, by simpa using ho, (Below.refl _ _).grown hg (Nat.le_refl _) (by simp [Value.ownBlock])⟩
end Go.Proofs.YtlcbebiocmmbaaaDoor
