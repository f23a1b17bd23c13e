/-
  What the keeping laws begin with: a list's first bytes, and a list filled with noughts.
-/
import Derived.Test.YtjlboglcffdnoacDoorSomeWalk
import Derived.Test.YtjlboglcffdnoacDoorPFillWalk
namespace Go.Proofs.YtjlboglcffdnoacDoor
open Go.RowKit

theorem some_sl (v : Value) (l : List Int) (m : Nat) (w : World) (h : Sl w v l) (hm : m ≤ 100000) :
    Calls Tryd.prog 12 #[v, .int .i64 m] w fun e w' => ∃ v', e = .returned v' ∧ Sl w' v' (l.take m) ∧ Below w.heap.size w w' := by
  refine (some_any v l m w h hm).mono ?_
  rintro e w1 ⟨v1, rfl, o1, b1⟩
  exact ⟨v1, rfl, Sl.ofOwns o1 (by rw [List.length_take]; omega) (fun x hx => h.byte x (List.mem_of_mem_take hx)), b1⟩
theorem fill_sl (v : Value) (l : List Int) (n : Nat) (w : World) (h : Sl w v l) (hn : n ≤ 1000) :
    Calls Tryd.prog 5 #[v, .int .i64 n] w fun e w' => ∃ v', e = .returned v' ∧ Sl w' v' (fillL l n) ∧ Below w.heap.size w w' := by
  refine (fill_any v l n w h hn).mono ?_
  rintro e w1 ⟨v1, rfl, o1, b1⟩
  exact ⟨v1, rfl, Sl.ofOwns o1 (by rw [fillL_length]; omega) (fillL_byte h.byte n), b1⟩
end Go.Proofs.YtjlboglcffdnoacDoor
