/-
  The walk of the law CommandBytes.
-/
import Derived.Test.YtjlboglcffdnoacDoorOrFour
import Derived.Test.YtjlboglcffdnoacDoorKOrdWalk
namespace Go.Proofs.YtjlboglcffdnoacDoor
open Go.RowKit
set_option linter.unusedVariables false

theorem comL_four (K C S N V : Int) (j : Nat) (hj : j < 5) : ∃ x, [K, C, S, N, V].getD j 0 = x ∧ (comL K C S N V).getD (4 * j) 0 = x / 16777216 % 256 ∧ (comL K C S N V).getD (4 * j + 1) 0 = x / 65536 % 256 ∧ (comL K C S N V).getD (4 * j + 2) 0 = x / 256 % 256 ∧ (comL K C S N V).getD (4 * j + 3) 0 = x % 256 := by
  rcases (by omega : j = 0 ∨ j = 1 ∨ j = 2 ∨ j = 3 ∨ j = 4) with rfl | rfl | rfl | rfl | rfl
  all_goals exact ⟨_, rfl, rfl, rfl, rfl, rfl⟩

set_option maxHeartbeats 2000000 in
set_option maxRecDepth 100000 in
theorem commandBytes_walk (a b c d e : Int) (w : World) (ia : I64 a) (ib : I64 b) (ic : I64 c) (id : I64 d) (ie : I64 e) (ht : NTab w) :
    Calls Tryd.prog 4 #[.agg (cmA a b c d e)] w fun e' w' => e' = .returned (.bool true) ∧ Below w.heap.size w w' := by
  have bb : Below w.heap.size w (w.alloc (.cells (cmA a b c d e) 36)) := (Below.refl _ _).alloc (Nat.le_refl _) _
  have r0 := heap_alloc_new w (.cells (cmA a b c d e) 36)
  have hiw : (Tryd.prog.info? 36).map (·.size) = some (cmA a b c d e).size := by show _ = some 5; kernel_rfl
  generalize hW0 : w.alloc (.cells (cmA a b c d e) 36) = W at bb r0
  go_enter Tryd.func4, Tryd.ntmps4
  go_wp2_with (refine wpList_load_row rfl 36 _ rfl w.heap.size rfl 36 _ (0, 0) _ r0 Tryd.underlying36 rfl hiw ?_)
  clear hW0
  refine (command_any a b c d e W ia ib ic id ie).mono ?_
  rintro e' w1 ⟨rfl, b1⟩
  have d1 := bb.trans (b1.mono bb.size)
  clear b1 bb r0
  have HC : Hid (comE (wK a) (pick b 4) (pick c 6) (pick d 4) (wV a e) = 0) := wish_in a b c d e _ _ (by have := pick_range b 4 (by omega); omega) (by have := pick_range c 6 (by omega); omega)
  generalize wK a = K at HC ⊢
  generalize pick b 4 = C at HC ⊢
  generalize pick c 6 = S at HC ⊢
  generalize pick d 4 = N at HC ⊢
  generalize wV a e = V at HC ⊢
  have hi := comInfo K C S N V
  have bN : Below w1.heap.size w1 (w1.alloc (.cells (cmA 0 0 0 0 0) 37)) := (Below.refl _ _).alloc (Nat.le_refl _) _
  have rN := heap_alloc_new w1 (.cells (cmA 0 0 0 0 0) 37)
  have hW : w1.alloc (.cells #[.int .i64 0, .int .i64 0, .int .i64 0, .int .i64 0, .int .i64 0] 37) = w1.alloc (.cells (cmA 0 0 0 0 0) 37) := rfl
  generalize w1.alloc (.cells (cmA 0 0 0 0 0) 37) = WN at bN rN hW
  go_upto_region 2 with (refine wpList_store_row rfl 37 (.tmp 3) (.tmp 9) rfl w1.heap.size (cmA K C S N V) rfl rfl 37 _ rN hi rfl (cmA_one _ _ _ _ _) ?_)
  clear hW
  have q1 := setRow_heap WN w1.heap.size _ (cmA K C S N V) 37 _ rN
  replace bN := oBelow_row bN (Nat.le_refl _) (cmA K C S N V)
  generalize WN.setRow w1.heap.size (cmA K C S N V) = W2 at q1 bN ⊢
  have d2 := d1.trans (bN.mono d1.size)
  have ltG : w1.heap.size < W2.heap.size := (Array.getElem?_eq_some_iff.1 q1).1
  generalize w1.heap.size = G at q1 ltG ⊢
  clear rN bN 
  go_wp2_with (refine wpList_load_row rfl 37 _ rfl G rfl 37 _ (0, 0) _ q1 Tryd.underlying37 rfl hi ?_)
  refine (encode_any K C S N V W2 (ht.below d2)).mono ?_
  rintro e' w3 ⟨v3, rfl, o3, b3⟩
  have d3 := d2.trans (b3.mono d2.size)
  rw [encL_ok HC.out] at o3
  rw [HC.out]
  replace q1 := (b3.block _ (Array.getElem?_eq_some_iff.1 q1).1).trans q1
  have s3 := Sl.ofOwns o3 (by rw [comL_length]; omega) (comL_byte K C S N V)
  have hL := comL_length K C S N V
  have HX : Hid (∀ j, j < 5 → ∃ x, [K, C, S, N, V].getD j 0 = x ∧ (0 ≤ x ∧ x < 2147483648) ∧ (comL K C S N V).getD (4 * j) 0 = x / 16777216 % 256 ∧ (comL K C S N V).getD (4 * j + 1) 0 = x / 65536 % 256 ∧ (comL K C S N V).getD (4 * j + 2) 0 = x / 256 % 256 ∧ (comL K C S N V).getD (4 * j + 3) 0 = x % 256) := by
    unfold Hid
    intro j hj
    obtain ⟨x, h0, h1, h2, h3, h4⟩ := comL_four K C S N V j hj
    refine ⟨x, h0, ?_, h1, h2, h3, h4⟩
    have hz := comE_zero HC.out
    unfold InC at hz
    rcases (by omega : j = 0 ∨ j = 1 ∨ j = 2 ∨ j = 3 ∨ j = 4) with rfl | rfl | rfl | rfl | rfl
    · have h0' : K = x := h0
      omega
    · have h0' : C = x := h0
      omega
    · have h0' : S = x := h0
      omega
    · have h0' : N = x := h0
      omega
    · have h0' : V = x := h0
      omega
  clear o3 b3 d2 d1 ltG
  generalize comL K C S N V = L at s3 hL HX
  obtain ⟨a3, c3, rfl⟩ := s3.shape
  have HL : Hid (L.length = 20) := hL
  rw [hL] at s3 ⊢
  clear hL
  obtain ⟨x0, x1, x2, x3, x4⟩ := cmA_cells q1
  have b4 : Below w3.heap.size w3 (w3.alloc (.cells (cmA K C S N V) 3)) := (Below.refl _ _).alloc (Nat.le_refl _) _
  have r4 := heap_alloc_new w3 (.cells (cmA K C S N V) 3)
  have hN : ∀ wr, Below (w3.heap.size + 1) (w3.alloc (.cells (cmA K C S N V) 3)) wr → ∀ j, j < 5 → wr.cell? ⟨w3.heap.size, j, none⟩ = some (.int .i64 ([K, C, S, N, V].getD j 0)) := fun wr hb j hj => by
    rw [cell_of_row _ _ j _ _ _ ((hb.block w3.heap.size (by omega)).trans r4)]
    rcases (by omega : j = 0 ∨ j = 1 ∨ j = 2 ∨ j = 3 ∨ j = 4) with rfl | rfl | rfl | rfl | rfl <;> rfl
  have HN : Hid _ := hN
  have hW : w3.alloc (.cells #[.int .i64 K, .int .i64 C, .int .i64 S, .int .i64 N, .int .i64 V] 3) = w3.alloc (.cells (cmA K C S N V) 3) := rfl
  have z4 : (w3.alloc (.cells (cmA K C S N V) 3)).heap.size = w3.heap.size + 1 := by simp
  clear hN r4 q1
  generalize w3.alloc (.cells (cmA K C S N V) 3) = W4 at b4 HN hW z4
  go_wp2_with fail
  clear hW x0 x1 x2 x3 x4
  have d4 := d3.trans (b4.mono d3.size)
  have s4 := s3.below b4
  have z3 := d3.size
  generalize [K, C, S, N, V] = M at HX HN
  generalize w3.heap.size = B at HN z4 z3 ⊢
  clear s3 b4 d3
  go_loopw [7] (fun iv wr => ∃ j : Nat, j ≤ 5 ∧ iv = .int .i64 (j : Int) ∧ Below (B + 1) W4 wr) (fun iv _ => (5 - intOf iv).toNat)
  case atStart => exact ⟨0, by omega, rfl, Below.refl _ _⟩
  case round =>
    obtain ⟨j, hj, rfl, hbel⟩ := hrel
    by_cases hj5 : j < 5
    · have hji : (j : Int) < 5 := by omega
      obtain ⟨x, hx, hxr, e0, e1, e2, e3⟩ := HX.out j hj5
      have hcj := HN.out _ hbel j hj5
      rw [hx] at hcj
      have sr : Sl wr _ L := s4.below (hbel.mono (by omega))
      have HB := sr.byte
      have y0 := getD_byte HB (4 * j)
      have y1 := getD_byte HB (4 * j + 1)
      have y2 := getD_byte HB (4 * j + 2)
      have y3 := getD_byte HB (4 * j + 3)
      obtain ⟨bd, od, ha, hbd, t0⟩ := sr.spotO (4 * j) (by have := HL.out; omega)
      obtain ⟨bd1, od1, ha1, _, t1⟩ := sr.spotO (4 * j + 1) (by have := HL.out; omega)
      obtain ⟨bd2, od2, ha2, _, t2⟩ := sr.spotO (4 * j + 2) (by have := HL.out; omega)
      obtain ⟨bd3, od3, ha3, _, t3⟩ := sr.spotO (4 * j + 3) (by have := HL.out; omega)
      subst ha
      simp only [Option.some.injEq, Addr.mk.injEq, and_true] at ha1 ha2 ha3
      obtain ⟨rfl, rfl⟩ := ha1
      obtain ⟨rfl, rfl⟩ := ha2
      obtain ⟨rfl, rfl⟩ := ha3
      obtain ⟨S1, S2, k1, k2, k3⟩ := or_four y0 y1 y2 y3
      have hsum : L.getD (4 * j) 0 * 16777216 + L.getD (4 * j + 1) 0 * 65536 + L.getD (4 * j + 2) 0 * 256 + L.getD (4 * j + 3) 0 = x := by rw [e0, e1, e2, e3]; omega
      rw [hsum] at k3
      have hM := hx
      clear hx e0 e1 e2 e3 hsum HB sr hM hxr
      generalize L.getD (4 * j) 0 = v0 at t0 y0 k1
      generalize L.getD (4 * j + 1) 0 = v1 at t1 y1 k1
      generalize L.getD (4 * j + 2) 0 = v2 at t2 y2 k2
      generalize L.getD (4 * j + 3) 0 = v3 at t3 y3 k3
      have i0 : (4 : Int) * (j : Int) < 20 := by omega
      have i1 : (4 : Int) * (j : Int) + 1 < 20 := by omega
      have i2 : (4 : Int) * (j : Int) + 2 < 20 := by omega
      have i3 : (4 : Int) * (j : Int) + 3 < 20 := by omega
      go_wp2_with fail
      go_quiet (fail)
      have hb2 : Below (B + 1) W4 (wr.drewN nq) := below_drewN hbel nq
      clear t0 t1 t2 t3 hcj k1 k2 k3
      generalize wr.drewN nq = w8 at hb2 ⊢
      go_wp2
      go_roundw
      case rel => exact ⟨j + 1, by omega, by go_num, hb2⟩
      case measure => simp [intOf]; omega
    · obtain rfl : j = 5 := by omega
      rw [show ((5 : Nat) : Int) = 5 from rfl]
      go_wp2
      go_ret
      exact ⟨rfl, d4.trans (hbel.mono (by omega))⟩
end Go.Proofs.YtjlboglcffdnoacDoor
