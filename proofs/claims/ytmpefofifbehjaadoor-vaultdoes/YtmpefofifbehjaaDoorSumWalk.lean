/-
  The walk of sha.Sum.
-/
import Derived.Test.YtmpefofifbehjaaDoorFreshDef
namespace Go.Proofs.YtmpefofifbehjaaDoor
open Go.RowKit

theorem sum_ok (v : Value) (l : List Int) (w : World) (h : Sl w v l) (hl : l.length ≤ 2000) (ht : TabAt w) :
    Calls Tryd.prog 46 #[v] w fun e w' => ∃ v', e = .returned (.tuple #[v', .int .i64 0]) ∧ Fresh w w' v' (dig l) := by
  have hs := h
  obtain ⟨⟨a, cap, rfl, hc, hn, h1⟩, hla, hba⟩ := h
  clear h1 hba
  go_enter Tryd.func46, Tryd.ntmps46
  go_wp2_with fail
  refine (digest_any _ l w hs (by omega) ht).mono ?_
  rintro e w1 ⟨v1, rfl, ho, hb⟩
  go_wp2
  go_ret2
  exact ⟨v1, rfl, Fresh.ofOwns ho (ne_of_length (dig_length l)) (by rw [dig_length]; omega) (dig_byte l) hb⟩

theorem sum_no (a : Option Addr) (n cap : Nat) (w : World) (hn : 2000 < n) (hn2 : n ≤ 140737488351232) :
    Calls Tryd.prog 46 #[.slice a n cap] w fun e w' => e = .returned (.tuple #[.slice none 0 0, .int .i64 1]) ∧ w' = w := by
  go_enter Tryd.func46, Tryd.ntmps46
  go_wp2
  go_ret2
  exact ⟨rfl, rfl⟩
end Go.Proofs.YtmpefofifbehjaaDoor
