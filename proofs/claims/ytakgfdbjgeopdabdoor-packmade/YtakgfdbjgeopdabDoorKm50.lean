/-
  A text's bytes, and two slices of bytes that are joined, in a walk.
-/
import Derived.Test.YtakgfdbjgeopdabDoorKm43
import Derived.Test.YtakgfdbjgeopdabDoorKm20
import Derived.Test.YtakgfdbjgeopdabDoorKm40
import Derived.Test.YtakgfdbjgeopdabDoorKm27
import Derived.Test.YtakgfdbjgeopdabDoorKm48
namespace Go.Proofs.YtakgfdbjgeopdabDoor
open Go.RowKit
set_option linter.unusedVariables false

section
variable {ops : Array Oper} {Q : Exit → Act → World → Prop}
theorem oConst {i d : Nat} {o : Oper} {a : Act} {W : World} {K : Act → World → Prop} (C : List Int) (ho : ops[i]? = some o) (hw : Region.wanted o (yielded ops a.tmps) = true) (hd : o.dst = some d)
    (hop : execOp a.eval o = convert 23 23 (.slice (some ⟨W.heap.size, 0, none⟩) 6 6) >>= fun x => pure (.value x)) (h6 : C.length = 6) (hb : ∀ x ∈ C, 0 ≤ x ∧ x < 256)
    (h : ∀ g w', Sl w' (.slice (some ⟨g, 0, none⟩) 6 6) C → Below W.heap.size W w' → K (a.put (some d) (.slice (some ⟨g, 0, none⟩) 6 6)) w') : PO Tryd.prog ops Q i K a (W.alloc (.cells (C.map (Value.int .u8)).toArray 5)) := by
  have kc := Go.Joins.run_convert_bytes_const_at (P := Tryd.prog) W 23 5 (C.map (Value.int .u8)).toArray 6 6 W.heap.size rfl Tryd.underlying23 Tryd.underlying5
  refine oRun (v := .slice (some ⟨W.heap.size, 0, none⟩) 6 6) ho hw hd (by rw [hop, Sem.run_bind, kc]; rfl) (h _ _ (Sl.sixM W C 5 _ rfl h6 hb) ((Below.refl _ _).alloc (Nat.le_refl _) _))
end
theorem joinR2 {v0 v1 : Value} {l0 l1 : List Int} {w : World} {e : TypeId} {g : Nat} (hr : w.heap[g]? = some (.cells #[v0, v1] e)) (h0 : Sl w v0 l0) (h1 : Sl w v1 l1) (q0 : l0.length ≤ 1000) (q1 : l1.length ≤ 1000) :
    Calls Tryd.prog 18 #[.slice (some ⟨g, 0, none⟩) 2 2] w fun e w' => ∃ v', e = .returned v' ∧ w'.ownsRow w.heap.size 5 1 v' (l0 ++ l1).length ((l0 ++ l1).map (Value.int .u8)) ∧ Below w.heap.size w w' := by
  refine (joined_any g 2 2 [v0, v1] [l0, l1] w (Array.getElem?_eq_some_iff.1 hr).1 (by omega) rfl ?_ ?_ ?_).mono ?_
  · intro i hi
    rw [cell_of_row _ _ i _ _ _ hr]
    obtain rfl | rfl : i = 0 ∨ i = 1 := by omega
    all_goals rfl
  · intro i hi
    obtain rfl | rfl : i = 0 ∨ i = 1 := by omega
    · exact h0
    · exact h1
  · intro l hl
    simp only [List.mem_cons, List.not_mem_nil, or_false] at hl
    rcases hl with rfl | rfl
    · exact q0
    · exact q1
  · rintro e' w' ⟨v', rfl, o, b⟩
    simp only [List.flatten_cons, List.flatten_nil, List.append_nil] at o
    exact ⟨v', rfl, o, b⟩
end Go.Proofs.YtakgfdbjgeopdabDoor
/-
  The walk of the tokens of raw numbers.
-/
namespace Go.Proofs.YtakgfdbjgeopdabDoor
open Go.RowKit
set_option linter.unusedVariables false

theorem tkA_oneK (c r u : Int) : (tkA c r u).all (·.oneCell') = true := by simp [tkA, Value.oneCell']
set_option maxHeartbeats 2000000 in
set_option maxRecDepth 100000 in
theorem token_any (a b c : Int) (w : World) (ia : I64 a) (ib : I64 b) (ic : I64 c) :
    Calls Tryd.prog 13 #[.agg (tkA a b c)] w fun e' w' => e' = .returned (.agg (tkA (pick a 8) (pick b 8) (pick c 1048577))) ∧ Below w.heap.size w w' := by
  have b0 : Below w.heap.size w (w.alloc (.cells (tkA a b c) 40)) := (Below.refl _ _).alloc (Nat.le_refl _) _
  have r0 := heap_alloc_new w (.cells (tkA a b c) 40)
  have z0 : (w.alloc (.cells (tkA a b c) 40)).heap.size = w.heap.size + 1 := by simp
  have b1 : Below (w.heap.size + 1) (w.alloc (.cells (tkA a b c) 40)) ((w.alloc (.cells (tkA a b c) 40)).alloc (.cells (tkA 0 0 0) 35)) := (Below.refl _ _).alloc (by omega) _
  have r1 := heap_alloc_new (w.alloc (.cells (tkA a b c) 40)) (.cells (tkA 0 0 0) 35)
  rw [z0] at r1
  replace r0 := (b1.block w.heap.size (by omega)).trans r0
  have bb := b0.trans (b1.mono (Nat.le_succ _))
  have hW : (w.alloc (.cells (tkA a b c) 40)).alloc (.cells #[.int .i64 0, .int .i64 0, .int .i64 0] 35) = (w.alloc (.cells (tkA a b c) 40)).alloc (.cells (tkA 0 0 0) 35) := rfl
  clear b0 b1 z0
  generalize (w.alloc (.cells (tkA a b c) 40)).alloc (.cells (tkA 0 0 0) 35) = W at r0 r1 bb hW
  obtain ⟨c0, c1, c2⟩ := tkA_cells r0
  have pa := ia.picked 8 W.drew (by omega) (by omega)
  have pb := ib.picked 8 W.drew (by omega) (by omega)
  have pc := ic.picked 1048577 W.drew (by omega) (by omega)
  have PA : Hid _ := pa
  have PB : Hid _ := pb
  have PC : Hid _ := pc
  have hi := tokInfo (pick a 8) (pick b 8) (pick c 1048577)
  clear pa pb pc ia ib ic
  generalize pick a 8 = x at PA hi
  generalize pick b 8 = y at PB hi
  generalize pick c 1048577 = z at PC hi
  go_enter Tryd.func13, Tryd.ntmps13
  go_wp2_with fail
  clear hW
  refine wp_region_quiet_tail 10 (by kernel_rfl) (by kernel_rfl) ?_
  simp only [List.take_succ_cons, List.take_zero, List.drop_succ_cons, List.drop_zero]
  repeat (go_big_quiet_step (fail))
  go_big_quiet_want
  go_big_quiet_op
  refine ⟨_, PA.out, ?_⟩
  go_big_quiet_on
  repeat (go_big_quiet_step (fail))
  go_big_quiet_want
  go_big_quiet_op
  refine ⟨_, PB.out, ?_⟩
  go_big_quiet_on
  repeat (go_big_quiet_step (fail))
  go_big_quiet_want
  go_big_quiet_op
  refine ⟨_, PC.out, ?_⟩
  go_big_quiet_on
  repeat (go_big_quiet_step (fail))
  refine wpQuiet_nil ?_
  have rr' : W.drew.heap[w.heap.size + 1]? = some (.cells (tkA 0 0 0) 35) := r1
  have bb' : Below w.heap.size w W.drew := bb.drew
  clear r1 r0 bb c0 c1 c2 PA PB PC
  generalize W.drew = W2 at rr' bb' ⊢
  go_wp2_with (refine wpList_store_row rfl 35 (.tmp 2) (.tmp 12) rfl (w.heap.size + 1) (tkA x y z) rfl rfl 35 _ rr' hi rfl (tkA_oneK x y z) ?_)
  have r2 := setRow_heap W2 (w.heap.size + 1) _ (tkA x y z) 35 _ rr'
  exact bodyPost_ret (v := .agg (tkA x y z)) (results_cell_row rfl _ _ (w.heap.size + 1) 35 _ (0, 0) _ rfl r2 Tryd.underlying35 rfl hi) rfl ⟨rfl, oBelow_row bb' (Nat.le_succ _) _⟩
end Go.Proofs.YtakgfdbjgeopdabDoor
