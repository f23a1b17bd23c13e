/-
  The walk of the law LinesChecks.
-/
import Derived.Test.YtlcbebiocmmbaaaDoorLinChk
import Derived.Test.YtlcbebiocmmbaaaDoorLinFault
namespace Go.Proofs.YtlcbebiocmmbaaaDoor
open Go.RowKit
set_option linter.unusedVariables false

set_option maxHeartbeats 2000000 in
set_option maxRecDepth 100000 in
theorem linesChecks_walk (x : Lac) (y : Value) (w : World) (hd : Sl w y x.d) (tw : LWTab w) (tb : LBTab w) :
    Calls Tryd.prog 3 #[.agg (laA x.k x.n x.a x.p y)] w fun e w' => e = .returned (.bool true) ∧ Below w.heap.size w w' := by
  obtain ⟨k, n, a, p, d⟩ := x
  simp only at hd ⊢
  obtain ⟨a0, cp, rfl⟩ := hd.shapeT
  have hdl := hd.len
  obtain ⟨W0, hW0⟩ : ∃ W0, w.alloc (.cells (laA k n a p (.slice a0 d.length cp)) 24) = W0 := ⟨_, rfl⟩
  have r0 : W0.heap[w.heap.size]? = some (.cells (laA k n a p (.slice a0 d.length cp)) 24) := by rw [← hW0]; exact heap_alloc_new _ _
  have bW : Below w.heap.size w W0 := by rw [← hW0]; exact (Below.refl _ _).alloc (Nat.le_refl _) _
  have HB : Hid (Below w.heap.size w W0 ∧ W0.heap[w.heap.size]? = some (.cells (laA k n a p (.slice a0 d.length cp)) 24)) := ⟨bW, r0⟩
  have HD : Hid (Sl w (.slice a0 d.length cp) d) := hd
  have r1 := r0
  unfold laA at r1 hW0
  have R1 : Hid _ := r1
  clear r0 r1 bW hd
  unfold laA
  go_enter Tryd.func3, Tryd.ntmps3
  go_wp2_with (refine wpList_load_row rfl 24 _ rfl w.heap.size rfl 24 _ (0, 0) _ R1.out Tryd.underlying24 rfl laSize ?_)
  clear hW0
  refine (check_all k n a p d hdl a0 cp W0 (tw.below HB.out.1) (tb.below HB.out.1)).mono ?_
  rintro e w1 ⟨rfl, b1⟩
  have H1 : Hid (Below w.heap.size w w1 ∧ w1.heap[w.heap.size]? = some (.cells (laA k n a p (.slice a0 d.length cp)) 24)) := ⟨HB.out.1.trans (b1.mono HB.out.1.size), (b1.block _ (Array.getElem?_eq_some_iff.1 HB.out.2).1).trans HB.out.2⟩
  have r2 := H1.out.2
  unfold laA at r2
  have R2 : Hid _ := r2
  clear b1 HB R1 r2
  go_wp2_with (refine wpList_load_row rfl 24 _ rfl w.heap.size rfl 24 _ (0, 0) _ R2.out Tryd.underlying24 rfl laSize ?_)
  refine (actFault_any k n a p _ d w1 (HD.out.below H1.out.1)).mono ?_
  rintro e w2 ⟨rfl, b2⟩
  have H2 : Hid (Below w.heap.size w w2) := H1.out.1.trans (b2.mono H1.out.1.size)
  clear b2 H1 R2
  generalize lacE ⟨k, n, a, p, d⟩ = E
  have e1 : (E == E) = true := eq_beq rfl
  go_wp2
  go_ret
  exact ⟨rfl, H2.out⟩
end Go.Proofs.YtlcbebiocmmbaaaDoor
