/-
  Do, where what it makes is known.
-/
import Derived.Test.YtmpefofifbehjaaDoorVaDo
import Derived.Test.YtmpefofifbehjaaDoorVaLow
namespace Go.Proofs.YtmpefofifbehjaaDoor
open Go.RowKit
set_option linter.unusedVariables false

theorem vdo_is {s s' : Sto} {k c q n v C A : Int} (h : DoIs s ⟨k, c, q, n, v⟩ s' C A) (w : World) (hN : NTab w) :
    Calls Tryd.prog 8 #[.agg (stA s), .agg #[.int .i64 k, .int .i64 c, .int .i64 q, .int .i64 n, .int .i64 v]] w fun e w' => e = .returned (.tuple #[.agg (stA s'), .agg #[.int .i64 C, .int .i64 A], .int .i64 0]) ∧ Below w.heap.size w w' := by
  have key := vdo_any s k c q n v w hN
  rw [h.he, h.hs, h.hc, h.ha] at key
  exact key
end Go.Proofs.YtmpefofifbehjaaDoor
