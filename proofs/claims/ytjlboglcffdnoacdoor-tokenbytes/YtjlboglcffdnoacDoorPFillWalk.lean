/-
  The walk of the list that is filled with noughts.
-/
import Derived.Test.YtjlboglcffdnoacDoorShapes
import Derived.Test.YtjlboglcffdnoacDoorSomeWalk
namespace Go.Proofs.YtjlboglcffdnoacDoor
open Go.RowKit

/-- the first n bytes, noughts behind them -/
def fillL (l : List Int) (n : Nat) : List Int := l.take n ++ List.replicate (n - (l.take n).length) 0
theorem fillL_length (l : List Int) (n : Nat) : (fillL l n).length = n := by
  rw [fillL, List.length_append, List.length_replicate, List.length_take]; omega
theorem fillL_byte {l : List Int} (h : ∀ x ∈ l, 0 ≤ x ∧ x < 256) (n : Nat) : ∀ x ∈ fillL l n, 0 ≤ x ∧ x < 256 := by
  intro x hx
  rcases List.mem_append.1 hx with h1 | h1
  · exact h x (List.mem_of_mem_take h1)
  · rw [(List.mem_replicate.1 h1).2]; omega

set_option maxHeartbeats 1000000 in
theorem fill_any (v : Value) (l : List Int) (n : Nat) (w : World) (h : Sl w v l) (hn : n ≤ 1000) :
    Calls Tryd.prog 5 #[v, .int .i64 n] w fun e w' => ∃ v', e = .returned v' ∧ w'.ownsRow w.heap.size 5 1 v' (fillL l n).length ((fillL l n).map (Value.int .u8)) ∧ Below w.heap.size w w' := by
  have hq : (l.take n).length ≤ n := by rw [List.length_take]; omega
  go_enter Tryd.func5, Tryd.ntmps5
  go_wp2_with fail
  refine (some_any v l n w h (by omega)).mono ?_
  rintro e w1 ⟨v1, rfl, ho1, hb1⟩
  have HF : Hid (fillL l n = l.take n ++ List.replicate (n - (l.take n).length) 0) := rfl
  generalize hL : l.take n = L at ho1 HF hq
  have HL : Hid (l.take n = L) := hL
  clear hL
  obtain ⟨a1, c1, rfl⟩ := owns_shape2 ho1
  go_wp2_with fail
  go_loopw [5] (fun v wr => ∃ (j : Nat) (a : Option Addr) (cap : Nat), j ≤ n - L.length ∧ v = .slice a (L.length + j) cap ∧ wr.ownsRow w.heap.size 5 1 v (L ++ List.replicate j 0).length ((L ++ List.replicate j 0).map (Value.int .u8)) ∧ Below w.heap.size w wr) (fun v _ => n - lenV v)
  case atStart => exact ⟨0, a1, c1, by omega, rfl, by simpa using ho1, hb1⟩
  case round =>
    clear ho1 hb1
    obtain ⟨j, a, cap, hj, rfl, hown, hb⟩ := hrel
    have hlt := hown.lt
    by_cases hjn : L.length + j < n
    · go_wp2_with (at_builtin; refine wpList_append_sl _ rfl _ _ 22 rfl w.heap.size 5 Tryd.underlying22 info5 _ _ rfl rfl (L ++ List.replicate j 0) [0] (hown.alloc _) (Sl.one _ _ _ rfl (by omega)) (by simp; omega) (by have := hb.size; simp; omega) ?_)
      intro v2 w2 ho2 hg2
      have ho2' : w2.ownsRow w.heap.size 5 1 v2 (L ++ List.replicate (j + 1) 0).length ((L ++ List.replicate (j + 1) 0).map (Value.int .u8)) := by rw [← replicate_snoc]; simpa using ho2
      have hb2 : Below w.heap.size w w2 := (hb.alloc hb.size _).grown hg2 (by have := hb.size; simp; omega) (fun k hk => (hlt k hk).1)
      obtain ⟨a2, c2, hv2⟩ := owns_shape2 ho2'
      rw [List.length_append, List.length_replicate] at hv2
      subst hv2
      clear ho2 hg2 hown hlt hb
      go_wp2
      go_roundw
      case rel => exact ⟨j + 1, a2, c2, by omega, rfl, ho2', hb2⟩
      case measure => simp [lenV]; omega
    · have HJ : Hid (n - L.length = j) := by unfold Hid; omega
      go_wp2
      go_ret
      refine ⟨_, rfl, ?_, hb⟩
      rw [HF.out, HJ.out]
      exact hown
end Go.Proofs.YtjlboglcffdnoacDoor
