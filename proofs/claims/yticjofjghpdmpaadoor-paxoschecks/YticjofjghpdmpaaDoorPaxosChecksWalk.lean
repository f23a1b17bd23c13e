/-
  The walk of the law PaxosChecks.
-/
import Derived.Test.YticjofjghpdmpaaDoorPaxCheck
import Derived.Test.YticjofjghpdmpaaDoorPaxFault
import Derived.Test.YticjofjghpdmpaaDoorLawAcc
namespace Go.Proofs.YticjofjghpdmpaaDoor
open Go.RowKit
set_option linter.unusedVariables false

theorem Ov.sv {w : World} {y : Value} {l : List Vt} (h : Ov w y l) (hl : l.length ≤ 2199023255488) : Sv w y l := Sv.ofOwns h hl
set_option maxHeartbeats 1000000 in
set_option maxRecDepth 100000 in
theorem paxosChecks_walk (p : Bal) (x : Value) (l : List Vt) (w : World) (h : Sv w x l) (ht : NTab w) :
    Calls Tryd.prog 3 #[.agg (acA p x)] w fun e w' => e = .returned (.bool true) ∧ Below w.heap.size w w' := by
  obtain ⟨pr, pn⟩ := p
  have hlen := h.len
  obtain ⟨ax, cp, rfl⟩ := h.shape
  obtain ⟨M, hM⟩ : ∃ M, l.length = M := ⟨_, rfl⟩
  have HM : Hid (l.length ≤ 2199023255488) := hlen
  rw [hM] at h ⊢
  clear hM hlen
  have bb : Below w.heap.size w (w.alloc (.cells #[.int .i64 pr, .int .i64 pn, .slice ax M cp] 26)) := (Below.refl _ _).alloc (Nat.le_refl _) _
  have rr := heap_alloc_new w (.cells #[.int .i64 pr, .int .i64 pn, .slice ax M cp] 26)
  have ha3 : (Tryd.prog.info? 26).map (·.size) = some (#[.int .i64 pr, .int .i64 pn, .slice ax M cp] : Array Value).size := acSize ⟨pr, pn⟩ _
  simp only [acA]
  generalize hW : w.alloc (.cells #[.int .i64 pr, .int .i64 pn, .slice ax M cp] 26) = W0 at bb rr
  have ltA : w.heap.size < W0.heap.size := (Array.getElem?_eq_some_iff.1 rr).1
  have h0 := h.below bb
  have t0 := ht.below bb
  go_enter Tryd.func3, Tryd.ntmps3
  go_wp2_with ((with_reducible (refine pxLook ?_)); refine wpList_load_row rfl 26 _ rfl w.heap.size rfl 26 _ (0, 0) _ rr Tryd.underlying26 rfl ha3 ?_)
  clear hW
  refine (acceptors_any ⟨pr, pn⟩ (.slice ax M cp) l W0 h0).mono ?_
  rintro e w1 ⟨y, rfl, oy, b1⟩
  have s1 := oy.sv HM.out
  have t1 := t0.below b1
  have d1 := bb.trans (b1.mono bb.size)
  have h1 := h0.below b1
  have r1 := (b1.block _ ltA).trans rr
  have lt1 : w.heap.size < w1.heap.size := Nat.lt_of_lt_of_le ltA b1.size
  clear b1 oy
  simp only [acA]
  go_wp2_with fail
  refine (check_acc ⟨pr, pn⟩ y l w1 s1 t1).mono ?_
  rintro e w2 ⟨rfl, b2⟩
  have d2 := d1.trans (b2.mono d1.size)
  have h2 := h1.below b2
  have r2 := (b2.block _ lt1).trans r1
  clear b2
  generalize hE : accE ⟨⟨pr, pn⟩, l⟩ = E
  have HE : Hid (accE ⟨⟨pr, pn⟩, l⟩ = E) := hE
  clear hE
  go_wp2_with ((with_reducible (refine pxLook ?_)); refine wpList_load_row rfl 26 _ rfl w.heap.size rfl 26 _ (0, 0) _ r2 Tryd.underlying26 rfl ha3 ?_)
  refine (accFault_any ⟨pr, pn⟩ (.slice ax M cp) l w2 h2).mono ?_
  rintro e w3 ⟨rfl, b3⟩
  have d3 := d2.trans (b3.mono d2.size)
  rw [HE.out]
  go_wp2
  go_ret
  exact ⟨by simp, d3⟩
end Go.Proofs.YticjofjghpdmpaaDoor
