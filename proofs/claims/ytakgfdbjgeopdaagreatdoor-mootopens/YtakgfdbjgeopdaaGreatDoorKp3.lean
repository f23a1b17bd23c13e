/-
  The walk of the block that comes of a state.
-/
import Derived.Test.YtakgfdbjgeopdaaGreatDoorKp1
import Derived.Test.YtakgfdbjgeopdaaGreatDoorKp2
namespace Go.Proofs.YtakgfdbjgeopdaaGreatDoor
open Go.RowKit

def qArr : Array Value := (qTab.map fun (n : Nat) => Value.int .i64 (n : Int)).toArray
/-- the table of quarters, in memory -/
def QTab (w : World) : Prop := ∃ t fr, w.heap[4]? = some (.cells qArr t fr)
theorem QTab.below {w w' : World} (h : QTab w) {B : Nat} (hB : 4 < B) (hb : Below B w w') : QTab w' := by
  obtain ⟨t, fr, h⟩ := h
  exact ⟨t, fr, (hb.block _ hB).trans h⟩
theorem QTab.pos {w : World} (h : QTab w) : 4 < w.heap.size := by
  obtain ⟨t, fr, h⟩ := h
  exact (Array.getElem?_eq_some_iff.1 h).1

theorem indexQ (j : Nat) (hj : j < 8) : ∀ w, (Instr.index 289 (.agg qArr) (.int .i64 (j : Int))).run Tryz.prog w = .ok (.agg #[.int .i64 ((qTab.getD (4 * j) 0 : Nat) : Int), .int .i64 ((qTab.getD (4 * j + 1) 0 : Nat) : Int), .int .i64 ((qTab.getD (4 * j + 2) 0 : Nat) : Int), .int .i64 ((qTab.getD (4 * j + 3) 0 : Nat) : Int)]) w := by
  intro w
  obtain rfl | rfl | rfl | rfl | rfl | rfl | rfl | rfl : j = 0 ∨ j = 1 ∨ j = 2 ∨ j = 3 ∨ j = 4 ∨ j = 5 ∨ j = 6 ∨ j = 7 := by omega
  all_goals kernel_rfl

theorem three' (w : World) (o1 o2 o3 : Obj) {W : World} (h : ((w.alloc o1).alloc o2).alloc o3 = W) :
    W.heap[w.heap.size]? = some o1 ∧ W.heap[w.heap.size + 1]? = some o2 ∧ W.heap[w.heap.size + 1 + 1]? = some o3 ∧ W.heap.size = w.heap.size + 3 ∧ Below w.heap.size w W := by
  subst h
  refine ⟨?_, ?_, ?_, by simp, (((Below.refl _ _).alloc (Nat.le_refl _) _).alloc (by simp) _).alloc (by simp; omega) _⟩
  · rw [heap_alloc_old _ _ (by simp; omega)]; exact heap_alloc2_old w o1 o2
  · rw [heap_alloc_old _ _ (by simp)]; exact heap_alloc2_new w o1 o2
  · have := heap_alloc_new ((w.alloc o1).alloc o2) o3
    simpa using this

theorem list16 : ∀ (S : List (BitVec 32)), S.length = 16 → ∃ s0 s1 s2 s3 s4 s5 s6 s7 s8 s9 s10 s11 s12 s13 s14 s15, S = [s0, s1, s2, s3, s4, s5, s6, s7, s8, s9, s10, s11, s12, s13, s14, s15]
  | [s0, s1, s2, s3, s4, s5, s6, s7, s8, s9, s10, s11, s12, s13, s14, s15], _ => ⟨s0, s1, s2, s3, s4, s5, s6, s7, s8, s9, s10, s11, s12, s13, s14, s15, rfl⟩
theorem index16 (S : List (BitVec 32)) (hS : S.length = 16) (j : Nat) (hj : j < 16) : ∀ w, (Instr.index 233 (.agg (wArr S)) (.int .i64 (j : Int))).run Tryz.prog w = .ok (.int .u32 (uw (S.getD j 0#32))) w := by
  intro w
  obtain ⟨s0, s1, s2, s3, s4, s5, s6, s7, s8, s9, s10, s11, s12, s13, s14, s15, rfl⟩ := list16 S hS
  obtain rfl | rfl | rfl | rfl | rfl | rfl | rfl | rfl | rfl | rfl | rfl | rfl | rfl | rfl | rfl | rfl : j = 0 ∨ j = 1 ∨ j = 2 ∨ j = 3 ∨ j = 4 ∨ j = 5 ∨ j = 6 ∨ j = 7 ∨ j = 8 ∨ j = 9 ∨ j = 10 ∨ j = 11 ∨ j = 12 ∨ j = 13 ∨ j = 14 ∨ j = 15 := by omega
  all_goals kernel_rfl

/-- for a look at what a goal is, ahead of a law -/
theorem wpList_id {P : Program} {ops : Array Oper} {Q : Exit → Act → World → Prop} {l : List Oper} {a : Act} {w : World} (h : wpList P ops Q l a w) : wpList P ops Q l a w := h

theorem heap_alloc3_new (w : World) (o1 o2 o3 : Obj) : (((w.alloc o1).alloc o2).alloc o3).heap[w.heap.size + 1 + 1]? = some o3 := by
  have := heap_alloc_new ((w.alloc o1).alloc o2) o3
  simpa using this

theorem start_facts (w : World) (o1 o2 o3 : Obj) (cs old : Array Value) (t : TypeId) (h3 : o3 = .cells old t (0, 0)) {W : World} (h : (((w.alloc o1).alloc o2).alloc o3).setRow (w.heap.size + 1 + 1) cs = W) :
    W.heap[w.heap.size]? = some o1 ∧ W.heap[w.heap.size + 1]? = some o2 ∧ W.heap[w.heap.size + 1 + 1]? = some (.cells cs t (0, 0)) ∧ W.heap.size = w.heap.size + 3 ∧ Below w.heap.size w W := by
  subst h
  subst h3
  have n3 := heap_alloc3_new w o1 o2 (.cells old t (0, 0))
  refine ⟨?_, ?_, setRow_heap _ _ _ _ t _ n3, by simp, below_setRowAt' ((((Below.refl _ _).alloc (Nat.le_refl _) _).alloc (by simp) _).alloc (by simp; omega) _) (by omega) _⟩
  · rw [setRow_other _ _ _ _ (by omega), heap_alloc_old _ _ (by simp; omega)]; exact heap_alloc2_old w o1 o2
  · rw [setRow_other _ _ _ _ (by omega), heap_alloc_old _ _ (by simp)]; exact heap_alloc2_new w o1 o2

theorem set4 (A : List Int) (n : Nat) (z0 z1 z2 z3 a b c d : Int) (R : List Int) (hA : A.length = n) : ((((A ++ z0 :: z1 :: z2 :: z3 :: R).set n a).set (n + 1) b).set (n + 2) c).set (n + 3) d = A ++ [a, b, c, d] ++ R := by
  subst hA
  rw [List.set_append_right _ _ (Nat.le_refl _), List.set_append_right _ _ (by omega), List.set_append_right _ _ (by omega), List.set_append_right _ _ (by omega)]
  simp
theorem b_store {w : World} {g : Nat} {l : List Int} {t : TypeId} (h : w.heap[g]? = some (.cells (bArr l) t (0, 0))) (k : Nat) (x : Int) :
    (w.setCell ⟨g, k, none⟩ (.int .u8 x)).heap[g]? = some (.cells (bArr (l.set k x)) t (0, 0)) := by
  rw [heap_setCell_same _ _ _ _ _ _ h, bArr_set]
theorem four_other (w : World) (G k : Nat) (h : k ≠ G) (a b c d : Nat) (x y z u : Value) : ((((w.setCell ⟨G, a, none⟩ x).setCell ⟨G, b, none⟩ y).setCell ⟨G, c, none⟩ z).setCell ⟨G, d, none⟩ u).heap[k]? = w.heap[k]? := by
  rw [heap_setCell_other _ _ _ _ (by simpa using h), heap_setCell_other _ _ _ _ (by simpa using h), heap_setCell_other _ _ _ _ (by simpa using h), heap_setCell_other _ _ _ _ (by simpa using h)]
/-- the first j words written, noughts behind them -/
def partL (s t : List (BitVec 32)) (j : Nat) : List Int := outL s t j ++ List.replicate (64 - 4 * j) 0
theorem partL_length (s t : List (BitVec 32)) (j : Nat) (hj : j ≤ 16) : (partL s t j).length = 64 := by
  rw [partL, List.length_append, outL_length, List.length_replicate]; omega
theorem partL_succ (s t : List (BitVec 32)) (j : Nat) (hj : j < 16) (x : BitVec 32) (hx : addW s t j = x) : ((((partL s t j).set (4 * j) (uw x % 256)).set (4 * j + 1) (uw x / 256 % 256)).set (4 * j + 2) (uw x / 65536 % 256)).set (4 * j + 3) (uw x / 16777216 % 256) = partL s t (j + 1) := by
  have e : List.replicate (64 - 4 * j) (0 : Int) = 0 :: 0 :: 0 :: 0 :: List.replicate (64 - 4 * (j + 1)) 0 := by
    rw [show 64 - 4 * j = 64 - 4 * (j + 1) + 1 + 1 + 1 + 1 by omega]; rfl
  rw [partL, e, set4 _ _ _ _ _ _ _ _ _ _ _ (outL_length s t j), partL, outL, bytesU, hx]

set_option maxHeartbeats 2000000 in
set_option maxRecDepth 100000 in
theorem scrambled_any (ws : List (BitVec 32)) (w : World) (hws : ws.length = 16) (ht : QTab w) :
    Calls Tryz.prog 220 #[.agg (wArr ws)] w fun e w' => e = .returned (.agg (bArr (blockL ws))) ∧ Below w.heap.size w w' := by
  have hpos := ht.pos
  have hsz : (Tryz.prog.info? 233).map (·.size) = some (wArr ws).size := by rw [wArr_size, hws]; kernel_rfl
  have hone : (wArr ws).all (·.oneCell') = true := by simp [wArr, Value.oneCell']
  go_enter Tryz.func220, Tryz.ntmps220
  go_wp2_with ((with_reducible (refine wpList_id ?_)); first
    | (refine wpList_load_row rfl 233 _ rfl w.heap.size rfl 233 _ (0, 0) _ (heap_alloc2_old _ _ _) Tryz.underlying233 rfl hsz ?_)
    | (refine wpList_store_row rfl 233 _ _ rfl (w.heap.size + 1 + 1) _ rfl rfl 233 (wArr (List.replicate 16 0#32)) (heap_alloc3_new _ _ _ _) hsz (by rw [wArr_size, wArr_size, hws]; rfl) hone ?_))
  generalize hW0 : World.setRow _ _ _ = W0
  obtain ⟨hF, hR, hS, hs0, hb0⟩ := start_facts w _ _ _ _ (wArr (List.replicate 16 0#32)) 233 rfl hW0
  clear hW0
  have hR : W0.heap[w.heap.size + 1]? = some (.cells (bArr (List.replicate 64 0)) 186 (0, 0)) := hR
  have hq0 : QTab W0 := ht.below hpos hb0
  go_loopw [10] (fun i wr => ∃ k : Nat, k ≤ 10 ∧ i = .int .i64 k ∧ wr.heap[w.heap.size + 1 + 1]? = some (.cells (wArr (turnsL ws k)) 233 (0, 0)) ∧ Below (w.heap.size + 1 + 1) W0 wr) (fun i _ => 10 - (intOf i).toNat)
  case atStart => exact ⟨0, by omega, rfl, hS, Below.refl _ _⟩
  case round =>
    clear hS
    obtain ⟨k, hk, rfl, hS, hbel⟩ := hrel
    by_cases hk10 : k < 10
    · obtain ⟨tq, frq, hq⟩ := hq0.below (by omega) hbel
      have hk10i : (k : Int) < 10 := by omega
      have hixA := indexQ
      have hszq : (Tryz.prog.info? 289).map (·.size) = some qArr.size := by kernel_rfl
      generalize qArr = qa at hq hszq hixA
      have HT : Hid (turnsL ws (k + 1) = turnL (turnsL ws k) 8) := rfl
      have hl0 : (turnsL ws k).length = 16 := by rw [turnsL_length]; exact hws
      generalize turnsL ws k = S at HT hS hl0
      go_wp2_with ((with_reducible (refine wpList_id ?_)); refine wpList_load_row rfl 289 (.global 4) rfl 4 rfl tq _ frq _ hq Tryz.underlying289 rfl hszq ?_)
      clear hq
      go_loopw [13] (fun i wr => ∃ j : Nat, j ≤ 8 ∧ i = .int .i64 j ∧ wr.heap[w.heap.size + 1 + 1]? = some (.cells (wArr (turnL S j)) 233 (0, 0)) ∧ Below (w.heap.size + 1 + 1) W0 wr) (fun i _ => 8 - (intOf i).toNat)
      case atStart => exact ⟨0, by omega, rfl, hS, hbel⟩
      case round =>
        clear hS hbel
        obtain ⟨j, hj, rfl, hS, hbel⟩ := hrel
        have hbs := hbel.size
        by_cases hj8 : j < 8
        · have hix := hixA j hj8
          have hj8i : (j : Int) < 8 := by omega
          have HU : Hid (turnL S (j + 1) = quartL (turnL S j) (qTab.getD (4 * j) 0) (qTab.getD (4 * j + 1) 0) (qTab.getD (4 * j + 2) 0) (qTab.getD (4 * j + 3) 0)) := rfl
          have l0 := qTab_lt (4 * j)
          have l1 := qTab_lt (4 * j + 1)
          have l2 := qTab_lt (4 * j + 2)
          have l3 := qTab_lt (4 * j + 3)
          have hlj : (turnL S j).length = 16 := by rw [turnL_length]; exact hl0
          generalize qTab.getD (4 * j) 0 = q0 at hix HU l0
          generalize qTab.getD (4 * j + 1) 0 = q1 at hix HU l1
          generalize qTab.getD (4 * j + 2) 0 = q2 at hix HU l2
          generalize qTab.getD (4 * j + 3) 0 = q3 at hix HU l3
          generalize turnL S j = X at HU hS hlj
          clear hixA
          go_wp2_with fail
          refine (quarter_any (w.heap.size + 1 + 1) X _ ((heap_alloc_old _ _ (by omega)).trans hS) hlj q0 q1 q2 q3 l0 l1 l2 l3).mono ?_
          rintro e w1 ⟨rfl, hS1, hb1⟩
          have hb2 : Below (w.heap.size + 1 + 1) W0 w1 := (hbel.alloc (by omega) _).trans hb1
          clear hS hbel hb1 hbs hix
          go_wp2
          go_roundw
          case rel => exact ⟨j + 1, by omega, by go_num, by rw [HU.out]; exact hS1, hb2⟩
          case measure => simp [intOf]; omega
        · have HJ : Hid (j = 8) := by unfold Hid; omega
          have hj8i : ¬ (j : Int) < 8 := by omega
          go_wp2
          go_roundw
          case rel => exact ⟨k + 1, by omega, by go_num, by rw [HT.out, ← HJ.out]; exact hS, hbel⟩
          case measure => simp [intOf]; omega
    · have HK : Hid (k = 10) := by unfold Hid; omega
      have hk10i : ¬ (k : Int) < 10 := by omega
      have HB : Hid (k = 10 → blockL ws = partL (turnsL ws k) ws 16) := by rintro rfl; simp [blockL, partL]
      have hl0 : (turnsL ws k).length = 16 := by rw [turnsL_length]; exact hws
      generalize turnsL ws k = S at HB hS hl0
      have hbs := hbel.size
      have hF1 := (hbel.block w.heap.size (by omega)).trans hF
      have hR1 := (hbel.block (w.heap.size + 1) (by omega)).trans hR
      have hB1 : Below w.heap.size w wr := hb0.trans (hbel.mono (by omega))
      have hsz1 : (Tryz.prog.info? 233).map (·.size) = some (wArr S).size := by rw [wArr_size, hl0]; kernel_rfl
      clear hF hR hb0 hbel hq0
      go_wp2_with ((with_reducible (refine wpList_id ?_)); refine wpList_load_row rfl 233 _ rfl (w.heap.size + 1 + 1) rfl 233 _ (0, 0) _ ((heap_alloc_old _ _ (by omega)).trans hS) Tryz.underlying233 rfl hsz1 ?_)
      have hBG : w.heap.size + 1 < wr.heap.size := by omega
      generalize hW1 : wr.alloc _ = W1
      have hN : W1.heap[wr.heap.size]? = some (.cells (bArr (partL S ws 0)) 186 (0, 0)) := by rw [← hW1]; exact heap_alloc_new _ _
      have hF2 : W1.heap[w.heap.size]? = some (.cells (wArr ws) 233 (0, 0)) := by rw [← hW1]; exact (heap_alloc_old _ _ (by omega)).trans hF1
      have hR2 : W1.heap[w.heap.size + 1]? = some (.cells (bArr (List.replicate 64 0)) 186 (0, 0)) := by rw [← hW1]; exact (heap_alloc_old _ _ (by omega)).trans hR1
      have hB2 : Below w.heap.size w W1 := by rw [← hW1]; exact hB1.alloc hB1.size _
      clear hW1 hF1 hR1 hB1 hbs hS ht hsz hsz1 hone hk10i
      generalize wr.heap.size = G at hN hBG ⊢
      go_loopw [28] (fun i wr => ∃ j : Nat, j ≤ 16 ∧ i = .int .i64 j ∧ wr.heap[G]? = some (.cells (bArr (partL S ws j)) 186 (0, 0)) ∧ wr.heap[w.heap.size]? = some (.cells (wArr ws) 233 (0, 0)) ∧ wr.heap[w.heap.size + 1]? = some (.cells (bArr (List.replicate 64 0)) 186 (0, 0)) ∧ Below w.heap.size w wr) (fun i _ => 16 - (intOf i).toNat)
      case atStart => exact ⟨0, by omega, rfl, hN, hF2, hR2, hB2⟩
      case round =>
        clear hN hF2 hR2 hB2
        obtain ⟨j, hj, rfl, hN, hF, hR, hbel⟩ := hrel
        by_cases hj16 : j < 16
        · have hj16i : (j : Int) < 16 := by omega
          have hix := index16 S hl0 j hj16
          have cf := (cell_of_row wr _ j _ _ _ hF).trans (wArr_get ws j (by omega))
          have hpl := partL_length S ws j hj
          have c0 := (cell_of_row wr _ (4 * j) _ _ _ hN).trans (bArr_get _ (4 * j) (by omega))
          have c1 := (cell_of_row wr _ (4 * j + 1) _ _ _ hN).trans (bArr_get _ (4 * j + 1) (by omega))
          have c2 := (cell_of_row wr _ (4 * j + 2) _ _ _ hN).trans (bArr_get _ (4 * j + 2) (by omega))
          have c3 := (cell_of_row wr _ (4 * j + 3) _ _ _ hN).trans (bArr_get _ (4 * j + 3) (by omega))
          have f0 := frozen_of_row wr _ (4 * j) _ _ hN
          have f1 := frozen_of_row wr _ (4 * j + 1) _ _ hN
          have f2 := frozen_of_row wr _ (4 * j + 2) _ _ hN
          have f3 := frozen_of_row wr _ (4 * j + 3) _ _ hN
          obtain ⟨x, hx, HX⟩ : ∃ x, (uw (S.getD j 0#32) + uw (ws.getD j 0#32)) % (4294967296 : Int) = uw x ∧ Hid (addW S ws j = x) := ⟨_, uw_sum2 _ _, rfl⟩
          generalize S.getD j 0#32 = xa at hix hx
          generalize ws.getD j 0#32 = xb at cf hx
          have nx := uw_lo x
          have HN : Hid _ := hN
          have HF : Hid _ := hF
          have HR : Hid _ := hR
          have HBE : Hid _ := hbel
          have HPS : Hid (((((partL S ws j).set (4 * j) (uw x % 256)).set (4 * j + 1) (uw x / 256 % 256)).set (4 * j + 2) (uw x / 65536 % 256)).set (4 * j + 3) (uw x / 16777216) = partL S ws (j + 1)) := by
            have h1 := partL_succ S ws j hj16 x HX.out
            rw [show uw x / 16777216 % 256 = uw x / 16777216 by have := uw_hi x; omega] at h1
            exact h1
          clear hN hF hR hbel hpl
          go_wp2
          go_roundw
          case rel => exact ⟨j + 1, by omega, by go_num, by rw [← HPS.out]; exact b_store (b_store (b_store (b_store HN.out _ _) _ _) _ _) _ _, (four_other wr G _ (by omega) _ _ _ _ _ _ _ _).trans HF.out, (four_other wr G _ (by omega) _ _ _ _ _ _ _ _).trans HR.out,
              (((HBE.out.setCell (p := ⟨G, _, none⟩) (by simp; omega) _).setCell (p := ⟨G, _, none⟩) (by simp; omega) _).setCell (p := ⟨G, _, none⟩) (by simp; omega) _).setCell (p := ⟨G, _, none⟩) (by simp; omega) _⟩
          case measure => simp [intOf]; omega
        · have HJ : Hid (j = 16) := by unfold Hid; omega
          have hj16i : ¬ (j : Int) < 16 := by omega
          have hpl := partL_length S ws j hj
          have hsz : (Tryz.prog.info? 186).map (·.size) = some (bArr (partL S ws j)).size := by rw [bArr_size, hpl]; kernel_rfl
          have hone : (bArr (partL S ws j)).all (·.oneCell') = true := by simp [bArr, Value.oneCell']
          go_wp2_with ((with_reducible (refine wpList_id ?_)); first | (refine wpList_load_row rfl 186 _ rfl G rfl 186 _ (0, 0) _ hN Tryz.underlying186 rfl hsz ?_) | (refine wpList_store_row rfl 186 _ _ rfl (w.heap.size + 1) _ rfl rfl 186 _ hR hsz (by rw [bArr_size, bArr_size, hpl]; rfl) hone ?_))
          refine bodyPost_ret (v := .agg (bArr (partL S ws j))) (results_cell_row rfl _ _ (w.heap.size + 1) 186 _ (0, 0) _ rfl (setRow_heap wr _ _ _ 186 _ hR) Tryz.underlying186 rfl hsz) rfl ⟨?_, below_setRowAt' hbel (by omega) _⟩
          rw [HB.out HK.out, HJ.out]
end Go.Proofs.YtakgfdbjgeopdaaGreatDoor
/-
  The walks of what is refused, and of a block of the stream.
-/
namespace Go.Proofs.YtakgfdbjgeopdaaGreatDoor
open Go.RowKit

/-- what is wrong with a key, a counter and a nonce -/
def chaErr (key nonce : List Int) (c : Int) : Int := if key.length ≠ 32 ∨ nonce.length ≠ 12 then 1 else if c < 0 ∨ 1073741824 < c then 2 else 0
theorem chaErr_size {key nonce : List Int} {c : Int} (h : key.length ≠ 32 ∨ nonce.length ≠ 12) : chaErr key nonce c = 1 := by unfold chaErr; rw [if_pos h]
theorem chaErr_range {key nonce : List Int} {c : Int} (hk : key.length = 32) (hn : nonce.length = 12) (h : c < 0 ∨ 1073741824 < c) : chaErr key nonce c = 2 := by unfold chaErr; rw [if_neg (by omega), if_pos h]
theorem chaErr_ok {key nonce : List Int} {c : Int} (hk : key.length = 32) (hn : nonce.length = 12) (h : 0 ≤ c ∧ c ≤ 1073741824) : chaErr key nonce c = 0 := by unfold chaErr; rw [if_neg (by omega), if_neg (by omega)]
theorem chaErr_zero {key nonce : List Int} {c : Int} (h : chaErr key nonce c = 0) : key.length = 32 ∧ nonce.length = 12 ∧ 0 ≤ c ∧ c ≤ 1073741824 := by
  unfold chaErr at h
  split at h
  · cases h
  · split at h
    · cases h
    · omega

theorem refused_any (vk vn : Value) (key nonce : List Int) (c : Int) (w : World) (hk : Sl w vk key) (hn : Sl w vn nonce) :
    Calls Tryz.prog 179 #[vk, .int .i64 c, vn] w fun e w' => e = .returned (.int .i64 (chaErr key nonce c)) ∧ w' = w := by
  obtain ⟨⟨ak, ck, rfl, _, _, _⟩, lk, _⟩ := hk
  obtain ⟨⟨an, cn, rfl, _, _, _⟩, ln, _⟩ := hn
  have H1 : Hid (key.length ≠ 32 ∨ nonce.length ≠ 12 → chaErr key nonce c = 1) := chaErr_size
  have H2 : Hid (key.length = 32 → nonce.length = 12 → (c < 0 ∨ 1073741824 < c) → chaErr key nonce c = 2) := chaErr_range
  have H3 : Hid (key.length = 32 → nonce.length = 12 → (0 ≤ c ∧ c ≤ 1073741824) → chaErr key nonce c = 0) := chaErr_ok
  generalize chaErr key nonce c = E at H1 H2 H3 ⊢
  generalize key.length = n at *
  generalize nonce.length = m at *
  go_enter Tryz.func179, Tryz.ntmps179
  by_cases h1 : (n : Int) = 32
  · by_cases h2 : (m : Int) = 12
    · by_cases h3 : c < 0
      · go_wp2
        go_ret
        exact ⟨by rw [H2.out (by omega) (by omega) (by omega)]; rfl, rfl⟩
      · by_cases h4 : 1073741824 < c
        · go_wp2
          go_ret
          exact ⟨by rw [H2.out (by omega) (by omega) (by omega)]; rfl, rfl⟩
        · go_wp2
          go_ret
          exact ⟨by rw [H3.out (by omega) (by omega) (by omega)]; rfl, rfl⟩
    · go_wp2
      go_ret
      exact ⟨by rw [H1.out (by omega)]; rfl, rfl⟩
  · go_wp2
    go_ret
    exact ⟨by rw [H1.out (by omega)]; rfl, rfl⟩

theorem block_row (w : World) (l : List Int) (o : Obj) (t : TypeId) (old : Array Value) (ho : o = .cells old t (0, 0)) {W : World} (hW : (w.alloc o).setRow w.heap.size (bArr l) = W) :
    W.heap[w.heap.size]? = some (.cells (bArr l) t (0, 0)) ∧ Below w.heap.size w W ∧ W.heap.size = w.heap.size + 1 := by
  subst hW
  subst ho
  exact ⟨setRow_heap _ _ _ _ t _ (heap_alloc_new _ _), below_setRowAt' ((Below.refl _ _).alloc (Nat.le_refl _) _) (Nat.le_refl _) _, by simp⟩

theorem Sl.ofRow {w : World} {g : Nat} {l : List Int} {t : TypeId} {fr : Nat × Nat} (h : w.heap[g]? = some (.cells (bArr l) t fr)) (hl : l.length ≤ 140737488351232) (hb : ∀ x ∈ l, 0 ≤ x ∧ x < 256) : Sl w (.slice (some ⟨g, 0, none⟩) l.length l.length) l := by
  refine ⟨⟨_, l.length, rfl, by simp, by simp, .inr ⟨g, 0, rfl, (Array.getElem?_eq_some_iff.1 h).1, fun i hi => ?_⟩⟩, hl, hb⟩
  rw [Nat.zero_add]
  exact (cell_of_row w _ i _ _ _ h).trans (bArr_get l i hi)

/-- a new list of so many bytes, which nothing that was there before shares -/
structure Got (w w' : World) (v : Value) (l : List Int) : Prop where
  sl : Sl w' v l
  bel : Below w.heap.size w w'
  new : ∀ b o n c, v = .slice (some ⟨b, o, none⟩) n c → w.heap.size ≤ b

set_option maxHeartbeats 1000000 in
set_option maxRecDepth 100000 in
theorem block_ok (vk vn : Value) (key nonce : List Int) (c : Nat) (w : World) (hk : Sl w vk key) (hn : Sl w vn nonce) (lk : key.length = 32) (ln : nonce.length = 12) (hc : c ≤ 1073741824) (ht : QTab w) :
    Calls Tryz.prog 182 #[vk, .int .i64 c, vn] w fun e w' => ∃ v', e = .returned (.tuple #[v', .int .i64 0]) ∧ Got w w' v' (blockL (begunL key (BitVec.ofNat 32 c) nonce)) := by
  go_enter Tryz.func182, Tryz.ntmps182
  go_wp2_with fail
  refine (refused_any vk vn key nonce c w hk hn).mono ?_
  rintro e w1 ⟨rfl, rfl⟩
  rw [chaErr_ok lk ln (by omega)]
  go_wp2_with fail
  refine (begun_any vk vn key nonce c w1 hk hn lk ln (by omega)).mono ?_
  rintro e w2 ⟨rfl, b2⟩
  have hl := begunL_length key (BitVec.ofNat 32 c) nonce
  generalize hus : begunL key (BitVec.ofNat 32 c) nonce = us at hl
  have HUS : Hid (begunL key (BitVec.ofNat 32 c) nonce = us) := hus
  clear hus
  go_wp2_with fail
  refine (scrambled_any us w2 hl (ht.below ht.pos b2)).mono ?_
  rintro e w3 ⟨rfl, b3⟩
  have hbl := blockL_length us
  have hbb := blockL_byte us
  generalize hbs : blockL us = bs at hbl hbb
  have HBS : Hid (blockL us = bs) := hbs
  clear hbs
  have hsz : (Tryz.prog.info? 186).map (·.size) = some (bArr bs).size := by rw [bArr_size, hbl]; kernel_rfl
  have hone : (bArr bs).all (·.oneCell') = true := by simp [bArr, Value.oneCell']
  go_wp2_with ((with_reducible (refine wpList_id ?_)); refine wpList_store_row rfl 186 _ _ rfl w3.heap.size _ rfl rfl 186 (bArr (List.replicate 64 0)) (heap_alloc_new _ _) hsz (by rw [bArr_size, bArr_size, hbl]; rfl) hone ?_)
  generalize hW4 : World.setRow _ _ _ = W4
  obtain ⟨hr, b4, _⟩ := block_row w3 bs _ 186 (bArr (List.replicate 64 0)) rfl hW4
  go_ret2
  refine ⟨_, rfl, ?_, (b2.trans (b3.mono b2.size)).trans (b4.mono (Nat.le_trans b2.size b3.size)), fun b o n c e => ?_⟩
  · rw [HUS.out, HBS.out]
    have := Sl.ofRow hr (by omega) hbb
    rw [hbl] at this
    exact this
  · have := Nat.le_trans b2.size b3.size
    injection e with e1
    injection e1 with e2
    injection e2 with e3
    omega

theorem block_no (vk vn : Value) (key nonce : List Int) (c : Int) (w : World) (hk : Sl w vk key) (hn : Sl w vn nonce) (hE : chaErr key nonce c ≠ 0) :
    Calls Tryz.prog 182 #[vk, .int .i64 c, vn] w fun e w' => e = .returned (.tuple #[.slice none 0 0, .int .i64 (chaErr key nonce c)]) ∧ w' = w := by
  go_enter Tryz.func182, Tryz.ntmps182
  go_wp2_with fail
  refine (refused_any vk vn key nonce c w hk hn).mono ?_
  rintro e w1 ⟨rfl, rfl⟩
  generalize hEE : chaErr key nonce c = E at hE
  have HE : Hid (chaErr key nonce c = E) := hEE
  clear hEE
  go_wp2
  go_ret2
  exact ⟨by rw [HE.out]; rfl, rfl⟩
end Go.Proofs.YtakgfdbjgeopdaaGreatDoor
