/-
  The walk of what a block does to the digest's words.
-/
import Derived.WalkKit
import Derived.ProofKit
import Derived.OpenShut
import Derived.SizedLaws
import Derived.ChangeOld
import Derived.Deep.DeepHandedRow
import Derived.Lib.LaidTab
import Derived.Deep.Strs
import Derived.Test.YtmpefofifbehjacDoorKd5
import Derived.Test.YtmpefofifbehjacDoorCards
import Derived.Test.YtmpefofifbehjacDoorTie
import Derived.Test.YtmpefofifbehjacDoorKd4
namespace Go.Proofs.YtmpefofifbehjacDoor
open Go.RowKit

/-- the table of the rounds, in memory -/
def TabAt (w : World) : Prop := 1 < w.heap.size ∧ ∀ i, i < 64 → w.cell? ⟨1, i, none⟩ = some (.int .u32 (uw (kAt i)))

theorem TabAt.below {w w' : World} (h : TabAt w) (hb : Below w.heap.size w w') : TabAt w' :=
  ⟨Nat.lt_of_lt_of_le h.1 hb.size, fun i hi => (hb.cell (p := ⟨1, i, none⟩) h.1).trans (h.2 i hi)⟩

theorem uw_flip (x : BitVec 32) : bits .xor .u32 IntKind.u32.max (uw x) = uw (~~~x) := by
  have e : IntKind.u32.max = uw (BitVec.allOnes 32) := rfl
  rw [e, uw_xor, uw_inj, BitVec.allOnes_xor]
theorem choice_bits (e f g : BitVec 32) : bits .xor .u32 (bits .and .u32 (uw e) (uw f)) (bits .and .u32 (bits .xor .u32 IntKind.u32.max (uw e)) (uw g)) = uw (choice e f g) := by
  rw [uw_flip, uw_and, uw_and, uw_xor]; rfl
theorem most_bits (a b c : BitVec 32) : bits .xor .u32 (bits .xor .u32 (bits .and .u32 (uw a) (uw b)) (bits .and .u32 (uw a) (uw c))) (bits .and .u32 (uw b) (uw c)) = uw (most a b c) := by
  rw [uw_and, uw_and, uw_and, uw_xor, uw_xor]; rfl
theorem big1_bits (x : BitVec 32) : bits .xor .u32 (bits .xor .u32 (uw (x.rotateRight 6)) (uw (x.rotateRight 11))) (uw (x.rotateRight 25)) = uw (big1 x) := by
  rw [uw_xor, uw_xor]; rfl
theorem big0_bits (x : BitVec 32) : bits .xor .u32 (bits .xor .u32 (uw (x.rotateRight 2)) (uw (x.rotateRight 13))) (uw (x.rotateRight 22)) = uw (big0 x) := by
  rw [uw_xor, uw_xor]; rfl

theorem up_bits (s : St) (k w : BitVec 32) : ((uw s.h + bits .xor .u32 (bits .xor .u32 (uw (s.e.rotateRight 6)) (uw (s.e.rotateRight 11))) (uw (s.e.rotateRight 25)) + uw (choice s.e s.f s.g) + uw k) % (4294967296 : Int) + uw w) % (4294967296 : Int) = uw (upS s k w) := by
  rw [big1_bits, uw_sum4, uw_sum2]; rfl
theorem down_bits (s : St) : (bits .xor .u32 (bits .xor .u32 (uw (s.a.rotateRight 2)) (uw (s.a.rotateRight 13))) (uw (s.a.rotateRight 22)) + uw (most s.a s.b s.c)) % (4294967296 : Int) = uw (downS s) := by
  rw [big0_bits, uw_sum2]; rfl

theorem index8 (s : St) (j : Nat) (hj : j < 8) : ∀ w, (Instr.index 81 (.agg #[.int .u32 (uw s.a), .int .u32 (uw s.b), .int .u32 (uw s.c), .int .u32 (uw s.d), .int .u32 (uw s.e), .int .u32 (uw s.f), .int .u32 (uw s.g), .int .u32 (uw s.h)]) (.int .i64 (j : Int))).run Tryd.prog w = .ok (.int .u32 (uw (s.list.getD j 0#32))) w := by
  intro w
  obtain rfl | rfl | rfl | rfl | rfl | rfl | rfl | rfl : j = 0 ∨ j = 1 ∨ j = 2 ∨ j = 3 ∨ j = 4 ∨ j = 5 ∨ j = 6 ∨ j = 7 := by omega
  all_goals kernel_rfl

theorem arr_store39 {w : World} {g : Nat} {ws : List (BitVec 32)} (h : w.heap[g]? = some (.cells (wArr ws) 81 (0, 0))) (k : Nat) (x : BitVec 32) :
    (w.setCell ⟨g, k, none⟩ (.int .u32 (uw x))).heap[g]? = some (.cells (wArr (ws.set k x)) 81 (0, 0)) := by
  rw [heap_setCell_same _ _ _ _ _ _ h, wArr_set]

theorem three (w : World) (o1 o2 o3 : Obj) {W : World} (h : ((w.alloc o1).alloc o2).alloc o3 = W) :
    W.heap[w.heap.size]? = some o1 ∧ W.heap[w.heap.size + 1]? = some o2 ∧ W.heap[w.heap.size + 1 + 1]? = some o3 ∧ Below w.heap.size w W := by
  subst h
  refine ⟨?_, ?_, ?_, (((Below.refl _ _).alloc (Nat.le_refl _) _).alloc (by simp) _).alloc (by simp; omega) _⟩
  · rw [heap_alloc_old _ _ (by simp; omega)]; exact heap_alloc2_old w o1 o2
  · rw [heap_alloc_old _ _ (by simp)]; exact heap_alloc2_new w o1 o2
  · have := heap_alloc_new ((w.alloc o1).alloc o2) o3
    simpa using this

set_option maxHeartbeats 1000000 in
set_option maxRecDepth 100000 in
theorem mixed_any (s : St) (ws : List (BitVec 32)) (w : World) (hws : ws.length = 64) (ht : TabAt w) :
    Calls Tryd.prog 30 #[.agg s.cells, .agg (wArr ws)] w fun e w' => e = .returned (.agg (mixS s ws).cells) ∧ Below w.heap.size w w' := by
  obtain ⟨a, b, c, d, e, f, g, h⟩ := s
  unfold St.cells
  go_enter Tryd.func30, Tryd.ntmps30
  go_wp2_with fail
  generalize hW0 : ((w.alloc _).alloc _).alloc _ = W0
  obtain ⟨hA, hB, hC, hbel⟩ := three w _ _ _ hW0
  clear hW0
  have htab := ht.below hbel
  have c0 := cell_of_row W0 _ 0 _ _ _ hA
  have c1 := cell_of_row W0 _ 1 _ _ _ hA
  have c2 := cell_of_row W0 _ 2 _ _ _ hA
  have c3 := cell_of_row W0 _ 3 _ _ _ hA
  have c4 := cell_of_row W0 _ 4 _ _ _ hA
  have c5 := cell_of_row W0 _ 5 _ _ _ hA
  have c6 := cell_of_row W0 _ 6 _ _ _ hA
  have c7 := cell_of_row W0 _ 7 _ _ _ hA
  simp only [List.getElem?_toArray, List.getElem?_cons_zero, List.getElem?_cons_succ] at c0 c1 c2 c3 c4 c5 c6 c7
  have HA : Hid _ := hA
  have HB : Hid _ := hB
  have HC : Hid _ := hC
  clear hA hB hC
  go_quiet (fail)
  go_wp2_with fail
  go_quiet (fail)
  go_wp2_with fail
  clear c0 c1 c2 c3 c4 c5 c6 c7
  go_loopw [5, 6, 7, 8, 9, 10, 11, 12, 36] (fun a' b' c' d' e' f' g' h' i wr => ∃ k n : Nat, k ≤ 64 ∧ i = .int .i64 k ∧ wr = W0.drewN n ∧ a' = .int .u32 (uw (roundsS ws ⟨a, b, c, d, e, f, g, h⟩ k).a) ∧ b' = .int .u32 (uw (roundsS ws ⟨a, b, c, d, e, f, g, h⟩ k).b) ∧ c' = .int .u32 (uw (roundsS ws ⟨a, b, c, d, e, f, g, h⟩ k).c) ∧ d' = .int .u32 (uw (roundsS ws ⟨a, b, c, d, e, f, g, h⟩ k).d) ∧ e' = .int .u32 (uw (roundsS ws ⟨a, b, c, d, e, f, g, h⟩ k).e) ∧ f' = .int .u32 (uw (roundsS ws ⟨a, b, c, d, e, f, g, h⟩ k).f) ∧ g' = .int .u32 (uw (roundsS ws ⟨a, b, c, d, e, f, g, h⟩ k).g) ∧ h' = .int .u32 (uw (roundsS ws ⟨a, b, c, d, e, f, g, h⟩ k).h)) (fun _ _ _ _ _ _ _ _ i _ => 64 - (intOf i).toNat)
  case atStart => exact ⟨0, _, by omega, rfl, World.drewN_drewN _ _ _, rfl, rfl, rfl, rfl, rfl, rfl, rfl, rfl⟩
  case round =>
    obtain ⟨k, n, hk, rfl, hwr, rfl, rfl, rfl, rfl, rfl, rfl, rfl, rfl⟩ := hrel
    have HWR : Hid (wr = W0.drewN n) := hwr
    by_cases hlt : k < 64
    · have ck : wr.cell? ⟨1, k, none⟩ = some (.int .u32 (uw (kAt k))) := by rw [hwr]; exact htab.2 k hlt
      have cw : wr.cell? ⟨w.heap.size + 1, k, none⟩ = some (.int .u32 (uw (ws.getD k 0#32))) := by rw [hwr]; exact (cell_of_row W0 _ k _ _ _ HB.out).trans (wArr_get ws k (by omega))
      clear hwr
      have HS : Hid (roundsS ws ⟨a, b, c, d, e, f, g, h⟩ (k + 1) = stepS (roundsS ws ⟨a, b, c, d, e, f, g, h⟩ k) (kAt k) (ws.getD k 0#32)) := rfl
      generalize roundsS ws ⟨a, b, c, d, e, f, g, h⟩ k = S at HS
      generalize kAt k = kk at ck HS
      generalize ws.getD k 0#32 = ww at cw HS
      clear htab
      unfold stepS at HS
      go_wp2_with fail
      rw [choice_bits, most_bits]
      go_quiet ((go_at_call 36; exact Calls.quiet_of_same (right_at _ _ _ (by omega) (by omega))))
      rw [up_bits]
      generalize upS S kk ww = up at HS ⊢
      clear ck cw
      go_wp2_with (go_at_call 36; refine (right_at _ _ _ (by omega) (by omega)).mono ?_; rintro e w' ⟨rfl, rfl⟩)
      go_roundw
      case rel =>
        rw [down_bits, uw_sum2, uw_sum2]
        exact ⟨k + 1, n + nq, by omega, by go_num, by rw [HWR.out, World.drewN_drewN], by rw [HS.out], by rw [HS.out], by rw [HS.out], by rw [HS.out], by rw [HS.out], by rw [HS.out], by rw [HS.out], by rw [HS.out]⟩
      case measure => simp [intOf]; omega
    · have HK : Hid (k = 64) := by unfold Hid; omega
      have hA2 : wr.heap[w.heap.size]? = some (.cells (wArr (addTo ⟨a, b, c, d, e, f, g, h⟩ (roundsS ws ⟨a, b, c, d, e, f, g, h⟩ k) 0)) 81 (0, 0)) := by rw [hwr]; exact HA.out
      have hC2 : wr.heap[w.heap.size + 1 + 1]? = some (.cells (wArr [0#32, 0#32, 0#32, 0#32, 0#32, 0#32, 0#32, 0#32]) 81 (0, 0)) := by rw [hwr]; exact HC.out
      have hbel2 : Below w.heap.size w wr := by rw [hwr]; exact below_drewN hbel n
      clear hwr HA HB HC htab hbel HWR
      have HM : Hid (k = 64 → (mixS ⟨a, b, c, d, e, f, g, h⟩ ws).cells = wArr (addTo ⟨a, b, c, d, e, f, g, h⟩ (roundsS ws ⟨a, b, c, d, e, f, g, h⟩ k) 8)) := by rintro rfl; rfl
      generalize roundsS ws ⟨a, b, c, d, e, f, g, h⟩ k = S at HM hA2 ⊢
      generalize hs0 : St.mk a b c d e f g h = s0 at HM hA2
      have HS0 : Hid (St.mk a b c d e f g h = s0) := hs0
      clear hs0
      go_wp2_with fail
      go_loopw [110] (fun i wr => ∃ j : Nat, j ≤ 8 ∧ i = .int .i64 j ∧ wr.heap[w.heap.size]? = some (.cells (wArr (addTo s0 S j)) 81 (0, 0)) ∧ wr.heap[w.heap.size + 1 + 1]? = some (.cells (wArr [0#32, 0#32, 0#32, 0#32, 0#32, 0#32, 0#32, 0#32]) 81 (0, 0)) ∧ Below w.heap.size w wr) (fun i _ => 8 - (intOf i).toNat)
      case atStart => exact ⟨0, by omega, rfl, hA2, hC2, hbel2⟩
      case round =>
        clear hA2 hC2 hbel2
        obtain ⟨j, hj, rfl, hA, hC, hbel⟩ := hrel
        by_cases hlt : j < 8
        · have cj := (cell_of_row wr _ j _ _ _ hA).trans (wArr_get (addTo s0 S j) j (by rw [addTo_length]; omega))
          have fj := frozen_of_row wr _ j _ _ hA
          have hix := index8 S j hlt
          have HV : Hid (addTo s0 S (j + 1) = (addTo s0 S j).set j ((addTo s0 S j).getD j 0#32 + S.list.getD j 0#32)) := rfl
          generalize (addTo s0 S j).getD j 0#32 = x at cj HV
          generalize S.list.getD j 0#32 = y at hix HV
          go_wp2
          go_roundw
          case rel =>
            rw [uw_sum2]
            exact ⟨j + 1, by omega, by go_num, by rw [HV.out]; exact arr_store39 hA j _, (heap_setCell_other _ _ _ _ (by simp; omega)).trans hC, hbel.setCell (Nat.le_refl _) _⟩
          case measure => simp [intOf]; omega
        · have HJ : Hid (j = 8) := by unfold Hid; omega
          have hsz : (Tryd.prog.info? 81).map (·.size) = some (wArr (addTo s0 S j)).size := by rw [wArr_size, addTo_length]; kernel_rfl
          have hone : (wArr (addTo s0 S j)).all (·.oneCell') = true := by simp [wArr, Value.oneCell']
          go_wp2_with (first | (refine wpList_load_row rfl 81 _ rfl w.heap.size rfl 81 _ (0, 0) _ hA Tryd.underlying81 rfl hsz ?_) | (refine wpList_store_row rfl 81 _ _ rfl (w.heap.size + 1 + 1) _ rfl rfl 81 _ hC hsz (by rw [wArr_size, wArr_size, addTo_length]; rfl) hone ?_))
          refine bodyPost_ret (v := .agg (wArr (addTo s0 S j))) (results_cell_row rfl _ _ (w.heap.size + 1 + 1) 81 _ (0, 0) _ rfl (setRow_heap wr _ _ _ 81 _ hC) Tryd.underlying81 rfl hsz) rfl ⟨?_, below_setRowAt hbel (by omega) _⟩
          rw [HJ.out, ← HM.out HK.out, ← HS0.out]
          rfl
end Go.Proofs.YtmpefofifbehjacDoor
/-
  What the proofs of the cards of this seat share: both tables (of rounds, of needs) in memory, and the opening of bytes.
-/
namespace Go.Proofs.YtmpefofifbehjacDoor
open Go.ChangeShapes Go.WideShapes Go.ChangeAt Go.RowKit

theorem own : ownKnob Tryd.prog.godebug = none := by kernel_rfl
theorem laidOut : laidOutB Tryd.prog = true := by kernel_rfl
theorem cells5 : Tryd.prog.cellsOf 5 = 1 := by kernel_rfl
theorem bytes5 : Tryd.prog.bytesOf 5 = 1 := by kernel_rfl
theorem gTab : Tryd.prog.globalNamed "conclave/sha.roundWords" = some 1 := by kernel_rfl
theorem gTabType : (Tryd.prog.globals[1]?).map (·.type) = some 83 := by kernel_rfl
theorem cells41 : Tryd.prog.cellsOf 83 = 64 := by kernel_rfl
theorem cells38 : Tryd.prog.cellsOf 80 = 1 := by kernel_rfl

theorem kTab_word (i : Nat) (hi : i < 64) : kTab.getD i 0 = uw (kAt i) := by
  have all : ∀ j : Fin 64, kTab.getD j.val 0 = uw (kAt j.val) := by decide +kernel
  exact all ⟨i, hi⟩

theorem gNeed : Tryd.prog.globalNamed "conclave/order.needs" = some 0 := by kernel_rfl
theorem gNeedType : (Tryd.prog.globals[0]?).map (·.type) = some 78 := by kernel_rfl
theorem cellsA : Tryd.prog.cellsOf 78 = 12 := by kernel_rfl
theorem cellsE : Tryd.prog.cellsOf 77 = 3 := by kernel_rfl
theorem cells3 : Tryd.prog.cellsOf 3 = 1 := by kernel_rfl

/-- a struct of three numbers that reads as three literals -/
theorem need_read {H : Type} {enc : TypeId × Value → H} {W : World} {base : Nat} {sp : Nat → Bool} {held : Bool} {fuel : Nat} {cs : List Value} {a b c : Int} {p : List MemPlace}
    (h : DataW.trod enc Tryd.prog W base sp held fuel 77 cs = some (.agg [.lit (.int .i64 a), .lit (.int .i64 b), .lit (.int .i64 c)], p)) :
    cs = [.int .i64 a, .int .i64 b, .int .i64 c] := by
  obtain ⟨y0, y1, y2, n, hx, hl, h0, h1, h2⟩ := Go.Deep.trod_struct3 Tryd.underlying77 h
  rw [cellsE] at hl
  simp only [cells3] at h0 h1 h2
  match cs, hl with
  | [c0, c1, c2], _ =>
    obtain ⟨a0, e0, x0, _⟩ := DataW.trod_int Tryd.underlying3 h0
    obtain ⟨a1, e1, x1, _⟩ := DataW.trod_int Tryd.underlying3 h1
    obtain ⟨a2, e2, x2, _⟩ := DataW.trod_int Tryd.underlying3 h2
    subst x0 x1 x2
    simp at e0 e1 e2
    subst e0 e1 e2
    simp at hx
    obtain ⟨⟨rfl, rfl, rfl⟩, _⟩ := hx
    rfl
theorem var_row {W : World} {name : String} {g : Nat} {cs : Array Value} (hg : Tryd.prog.globalNamed name = some g) (h : W.var? Tryd.prog name = some cs) : ∃ t fr, W.heap[g]? = some (.cells cs t fr) := by
  unfold World.var? at h
  rw [hg] at h
  simp only [Option.bind_some] at h
  split at h
  · rename_i c t fr hh
    simp only [Option.some.injEq] at h
    subst h
    exact ⟨t, fr, hh⟩
  · cases h
theorem tableN {W : World} (h : laidMetH Tryd.prog [("conclave/sha.roundWords", Rows.laid_conclave_sha_roundWords), ("conclave/order.needs", Rows.laid_conclave_order_needs)] W) : NTab W := by
  have h' : laidMet Tryd.prog [("conclave/sha.roundWords", Rows.laid_conclave_sha_roundWords), ("conclave/order.needs", Rows.laid_conclave_order_needs)] W := h
  obtain ⟨ps, ⟨g0, t0, cs0, fuel0, p0, q0, hg0, ht0, hvar0, hd0, ⟨g', t', cs, fuel, p, q, hg', ht', hvar, hd, _, _⟩, _⟩, _⟩ := h'
  obtain rfl := Option.some.inj (gNeed.symm.trans hg')
  obtain rfl := Option.some.inj (gNeedType.symm.trans ht')
  obtain ⟨xs, m, _, hx, hl, hxl, hb⟩ := DataW.trod_array Tryd.underlying78 hd
  rw [cellsA] at hl
  rw [cellsE] at hb
  have hT : cs.toList = needL.map (Value.int .i64) := by
    match xs, hxl with
    | [x0, x1, x2, x3], _ =>
      simp only [Rows.laid_conclave_order_needs, List.map_cons, List.map_nil, Prod.mk.injEq, DataW.agg.injEq, List.cons.injEq, and_true] at hx
      obtain ⟨⟨h0, h1, h2, h3⟩, _⟩ := hx
      have r0 := need_read (p := x0.2) ((hb 0 (by omega)).trans (by rw [h0]; rfl))
      have r1 := need_read (p := x1.2) ((hb 1 (by omega)).trans (by rw [h1]; rfl))
      have r2 := need_read (p := x2.2) ((hb 2 (by omega)).trans (by rw [h2]; rfl))
      have r3 := need_read (p := x3.2) ((hb 3 (by omega)).trans (by rw [h3]; rfl))
      generalize cs.toList = l at hl r0 r1 r2 r3
      match l, hl with
      | [_, _, _, _, _, _, _, _, _, _, _, _], _ =>
        simp at r0 r1 r2 r3
        simp [needL, r0, r1, r2, r3]
  have hT' : cs = (needL.map (Value.int .i64)).toArray := Array.ext' (by simpa using hT)
  subst hT'
  obtain ⟨t, fr, hr⟩ := var_row gNeed hvar
  refine ⟨(Array.getElem?_eq_some_iff.1 hr).1, fun i hi => ?_⟩
  refine cell_of_row _ _ i _ _ _ hr |>.trans ?_
  simp [List.getD, List.getElem?_map, List.getElem?_eq_getElem (show i < needL.length from hi)]

theorem tableT {W : World} (h : laidMetH Tryd.prog [("conclave/sha.roundWords", Rows.laid_conclave_sha_roundWords), ("conclave/order.needs", Rows.laid_conclave_order_needs)] W) : TabAt W := by
  have ht : Lib.TabIs Tryd.prog W "conclave/sha.roundWords" .u32 kTab :=
    Lib.tabIs_of_head (rest := [("conclave/order.needs", Rows.laid_conclave_order_needs)]) gTab gTabType Tryd.underlying83 Tryd.underlying80 cells38 cells41 h
  have hc : ∀ i, i < 64 → W.cell? ⟨1, i, none⟩ = some (.int .u32 (uw (kAt i))) := fun i hi => by
    rw [← kTab_word i hi]
    exact ht.cell gTab i hi
  exact ⟨World.block_lt_of_cell? W ⟨1, 0, none⟩ (hc 0 (by omega)), hc⟩

/-- a world for the witness: the settled one, the table holding what its initialiser lays -/
def IsLaid (os : Os) (W : World) : Prop :=
  W = { World.holding Tryd.prog os ⟨#[], #[], []⟩ with heap := (((World.holding Tryd.prog os ⟨#[], #[], []⟩).heap.modify 1 fun
      | .cells _ t frozen => .cells (kTab.map (Value.int .u32)).toArray t frozen
      | o => o).modify 0 fun
      | .cells _ t frozen => .cells (needL.map (Value.int .i64)).toArray t frozen
      | o => o) }
theorem ex_laid (os : Os) : ∃ W, IsLaid os W := ⟨_, rfl⟩
end Go.Proofs.YtmpefofifbehjacDoor
