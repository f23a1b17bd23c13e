/-
  The walks of what the laws call beside the program and the document's answer.
-/
import Derived.Test.YtlcbebiocmmbaaaDoorLawSame
namespace Go.Proofs.YtlcbebiocmmbaaaDoor
open Go.RowKit

theorem octets_any (v : Value) (l : List Int) (w : World) (h : Sl w v l) :
    Calls Tryd.prog 25 #[v] w fun e w' => ∃ v', e = .returned v' ∧ w'.ownsRow w.heap.size 5 1 v' l.length (l.map (Value.int .u8)) ∧ Below w.heap.size w w' := by
  have hl := h.len
  go_enter Tryd.func25, Tryd.ntmps25
  go_wp2_with (at_builtin; refine wpList_append_sl _ rfl _ _ 22 rfl w.heap.size 5 Tryd.underlying22 info5 _ _ rfl rfl [] l (World.ownsRow_nil _ _ _ _) h (by simp; omega) (Nat.le_refl _) ?_)
  intro v' w' ho hg
  go_wp2
  go_ret
  exact ⟨v', rfl, by simpa using ho, (Below.refl _ _).grown hg (Nat.le_refl _) (by simp [Value.ownBlock])⟩
end Go.Proofs.YtlcbebiocmmbaaaDoor
