/-
  The walk of the law PaxosPicks.
-/
import Derived.Test.YticjofjghpdmpaaDoorPaxPk
import Derived.Test.YticjofjghpdmpaaDoorPaxPick
import Derived.Test.YticjofjghpdmpaaDoorLawVv
import Derived.Test.YticjofjghpdmpaaDoorStEqC
namespace Go.Proofs.YticjofjghpdmpaaDoor
open Go.RowKit
set_option linter.unusedVariables false

theorem cm5l : (Tryd.prog.info? 37).map (·.size) = some 5 := by kernel_rfl
set_option maxHeartbeats 2000000 in
set_option maxRecDepth 100000 in
theorem paxosPicks_walk (x : Value) (ls : List (List Vt)) (s : Int) (w : World) (h : Svv w x ls) (hn : (ofSlot ls.flatten s).length ≤ 2199023255488) (ht : NTab w) :
    Calls Tryd.prog 6 #[x, .int .i64 s] w fun e w' => e = .returned (.bool true) ∧ Below w.heap.size w w' := by
  have HN : Hid ((ofSlot ls.flatten s).length ≤ 2199023255488) := hn
  clear hn
  have bb := Below.refl w.heap.size w
  go_enter Tryd.func6, Tryd.ntmps6
  go_wp2_with fail
  refine (manyVotes_any x ls w h).mono ?_
  rintro e w1 ⟨x1, rfl, s1, b1⟩
  have d1 := bb.trans (b1.mono bb.size)
  have tt1 := ht.below b1
  have sv1_0 := h.below b1
  clear b1
  go_wp2_with fail
  refine (pick_any x1 ls s w1 s1 tt1).mono ?_
  rintro e w2 ⟨rfl, b2⟩
  obtain ⟨C1, hC1⟩ : ∃ C1, pickC ls s = C1 := ⟨_, rfl⟩
  obtain ⟨F1, hF1⟩ : ∃ F1, pickF ls s = F1 := ⟨_, rfl⟩
  obtain ⟨E1, hE1⟩ : ∃ E1, pickE ls s = E1 := ⟨_, rfl⟩
  have HP1 : Hid (pickC ls s = C1 ∧ pickF ls s = F1 ∧ pickE ls s = E1) := ⟨hC1, hF1, hE1⟩
  rw [hC1, hF1, hE1]
  clear hC1 hF1 hE1
  obtain ⟨ck, cc, cs, cn, cv⟩ := C1
  simp only [cmC, cmA]
  have d2 := d1.trans (b2.mono d1.size)
  have tt2 := tt1.below b2
  have sv2_0 := sv1_0.below b2
  have sv2_1 := s1.below b2
  clear b2
  have bN3 : Below w2.heap.size w2 (w2.alloc (.cells #[.int .i64 0, .int .i64 0, .int .i64 0, .int .i64 0, .int .i64 0] 37)) := (Below.refl _ _).alloc (Nat.le_refl _) _
  have rN3 := heap_alloc_new w2 (.cells #[.int .i64 0, .int .i64 0, .int .i64 0, .int .i64 0, .int .i64 0] 37)
  have on3 : (#[.int .i64 ck, .int .i64 cc, .int .i64 cs, .int .i64 cn, .int .i64 cv] : Array Value).all (·.oneCell') = true := by simp [Value.oneCell']
  generalize hN3 : w2.alloc (.cells #[.int .i64 0, .int .i64 0, .int .i64 0, .int .i64 0, .int .i64 0] 37) = N3 at bN3 rN3
  go_upto_region 2 with ((with_reducible (refine pxLook ?_)); (refine wpList_store_row rfl 37 (.tmp 5) (.tmp 16) rfl w2.heap.size #[.int .i64 ck, .int .i64 cc, .int .i64 cs, .int .i64 cn, .int .i64 cv] rfl rfl 37 _ rN3 cm5l rfl on3 ?_))
  clear hN3
  have qN3 := setRow_heap N3 w2.heap.size _ (#[.int .i64 ck, .int .i64 cc, .int .i64 cs, .int .i64 cn, .int .i64 cv]) 37 _ rN3
  replace bN3 := oBelow_rowP bN3 (Nat.le_refl _) (#[.int .i64 ck, .int .i64 cc, .int .i64 cs, .int .i64 cn, .int .i64 cv])
  generalize N3.setRow w2.heap.size (#[.int .i64 ck, .int .i64 cc, .int .i64 cs, .int .i64 cn, .int .i64 cv]) = W3 at qN3 bN3 ⊢
  have lN3 : w2.heap.size < W3.heap.size := (Array.getElem?_eq_some_iff.1 qN3).1
  clear rN3
  have d3 := d2.trans (bN3.mono d2.size)
  have tt3 := tt2.below bN3
  have sv3_0 := sv2_0.below bN3
  have sv3_1 := sv2_1.below bN3
  obtain ⟨gC, hgC⟩ : ∃ g, g = w2.heap.size := ⟨_, rfl⟩
  rw [← hgC] at qN3 lN3 ⊢
  clear hgC bN3
  go_wp2_with fail
  refine (pickedFrom_any x ls s W3 sv3_0 HN.out).mono ?_
  rintro e w3 ⟨rfl, b3⟩
  rw [HP1.out.1, HP1.out.2.1, HP1.out.2.2]
  simp only [cmC, cmA]
  have d4 := d3.trans (b3.mono d3.size)
  have tt4 := tt3.below b3
  have rw4_0 := (b3.block _ lN3).trans qN3
  have lw4_0 := Nat.lt_of_lt_of_le lN3 b3.size
  have sv4_0 := sv3_0.below b3
  have sv4_1 := sv3_1.below b3
  clear lN3 qN3
  clear b3
  have bN5 : Below w3.heap.size w3 (w3.alloc (.cells #[.int .i64 0, .int .i64 0, .int .i64 0, .int .i64 0, .int .i64 0] 37)) := (Below.refl _ _).alloc (Nat.le_refl _) _
  have rN5 := heap_alloc_new w3 (.cells #[.int .i64 0, .int .i64 0, .int .i64 0, .int .i64 0, .int .i64 0] 37)
  have on5 : (#[.int .i64 ck, .int .i64 cc, .int .i64 cs, .int .i64 cn, .int .i64 cv] : Array Value).all (·.oneCell') = true := by simp [Value.oneCell']
  generalize hN5 : w3.alloc (.cells #[.int .i64 0, .int .i64 0, .int .i64 0, .int .i64 0, .int .i64 0] 37) = N5 at bN5 rN5
  go_upto_region 3 with ((with_reducible (refine pxLook ?_)); (refine wpList_store_row rfl 37 (.tmp 8) (.tmp 23) rfl w3.heap.size #[.int .i64 ck, .int .i64 cc, .int .i64 cs, .int .i64 cn, .int .i64 cv] rfl rfl 37 _ rN5 cm5l rfl on5 ?_))
  clear hN5
  have qN5 := setRow_heap N5 w3.heap.size _ (#[.int .i64 ck, .int .i64 cc, .int .i64 cs, .int .i64 cn, .int .i64 cv]) 37 _ rN5
  replace bN5 := oBelow_rowP bN5 (Nat.le_refl _) (#[.int .i64 ck, .int .i64 cc, .int .i64 cs, .int .i64 cn, .int .i64 cv])
  generalize N5.setRow w3.heap.size (#[.int .i64 ck, .int .i64 cc, .int .i64 cs, .int .i64 cn, .int .i64 cv]) = W5 at qN5 bN5 ⊢
  have lN5 : w3.heap.size < W5.heap.size := (Array.getElem?_eq_some_iff.1 qN5).1
  clear rN5
  have d5 := d4.trans (bN5.mono d4.size)
  have tt5 := tt4.below bN5
  have rw5_0 := (bN5.block _ lw4_0).trans rw4_0
  have lw5_0 := Nat.lt_of_lt_of_le lw4_0 bN5.size
  have sv5_0 := sv4_0.below bN5
  have sv5_1 := sv4_1.below bN5
  clear lw4_0 rw4_0
  obtain ⟨gD, hgD⟩ : ∃ g, g = w3.heap.size := ⟨_, rfl⟩
  rw [← hgD] at qN5 lN5 ⊢
  clear hgD bN5
  have hq := eql_com ck cc cs cn cv ck cc cs cn cv
  rw [decide_eq_true ⟨rfl, rfl, rfl, rfl, rfl⟩] at hq
  have d9 := d5
  go_wp2_with ((with_reducible (refine pxLook ?_)); first | (refine wpList_load_row rfl 37 (.tmp 5) rfl gC rfl 37 _ (0, 0) _ rw5_0 Tryd.underlying37 rfl cm5l ?_) | (refine wpList_load_row rfl 37 (.tmp 8) rfl gD rfl 37 _ (0, 0) _ qN5 Tryd.underlying37 rfl cm5l ?_))
  go_ret
  exact ⟨by simp, d9⟩
end Go.Proofs.YticjofjghpdmpaaDoor
