/-
  The walks of the document's own answer: a command's bytes, and the command of bytes.
-/
import Derived.Test.YtjlboglcffdnoaaDoorOrdDoc
import Derived.Test.YtjlboglcffdnoaaDoorOrdDecode
namespace Go.Proofs.YtjlboglcffdnoaaDoor
open Go.RowKit
set_option linter.unusedVariables false

theorem Sl.builtO (w : World) (l : List Int) (e : TypeId) {g : Nat} (hg : g = w.heap.size) {n : Nat} (hn : n = l.length) (hl : l.length ≤ 140737488351232) (hb : ∀ x ∈ l, 0 ≤ x ∧ x < 256) :
    Sl (w.alloc (.cells (l.map (Value.int .u8)).toArray e)) (.slice (some ⟨g, 0, none⟩) n n) l := by
  subst hg hn
  refine ⟨⟨_, _, rfl, Nat.le_refl _, by simp, ?_⟩, hl, hb⟩
  refine .inr ⟨w.heap.size, 0, rfl, by simp, fun i hi => ?_⟩
  rw [cell_of_row _ _ (0 + i) _ _ _ (heap_alloc_new w (.cells (l.map (Value.int .u8)).toArray e))]
  simp [List.getElem?_eq_getElem hi, List.getD]

theorem oHead_any (n : Int) (w : World) (n0 : 0 ≤ n) (n1 : n < 2147483648) :
    Calls Tryd.prog 29 #[.int .i64 n] w fun e w' => ∃ v', e = .returned v' ∧ Sl w' v' (headL n) ∧ Below w.heap.size w w' := by
  obtain ⟨m, rfl⟩ := Int.eq_ofNat_of_zero_le n0
  have h1 : (m : Int) / 16777216 % 256 = (m : Int) / 16777216 := by omega
  have h2 : (m : Int) / 65536 % 256 % 256 = (m : Int) / 65536 % 256 := by omega
  have h3 : (m : Int) / 256 % 256 % 256 = (m : Int) / 256 % 256 := by omega
  have h4 : (m : Int) % 256 % 256 = (m : Int) % 256 := by omega
  have HL : Hid ([(m : Int) / 16777216, (m : Int) / 65536 % 256, (m : Int) / 256 % 256, (m : Int) % 256] = headL (m : Int)) := by
    show _ = [_, _, _, _]
    rw [h1]
  have HB : Hid (∀ x ∈ headL (m : Int), 0 ≤ x ∧ x < 256) := headL_byte _
  go_enter Tryd.func29, Tryd.ntmps29
  go_wp2
  go_ret
  refine ⟨_, rfl, ?_, (Below.refl _ _).alloc (Nat.le_refl _) _⟩
  have hb := HB.out
  rw [← HL.out] at hb ⊢
  exact Sl.builtO w _ _ rfl rfl (by simp) hb

set_option maxHeartbeats 1000000 in
set_option maxRecDepth 100000 in
theorem comBytes_any (k c s n v : Int) (w : World) :
    Calls Tryd.prog 12 #[.agg (cmA k c s n v)] w fun e w' => ∃ v', e = .returned (.tuple #[v', .int .i64 (comE k c s n v)]) ∧ w'.ownsRow w.heap.size 5 1 v' (encL k c s n v).length ((encL k c s n v).map (Value.int .u8)) ∧ Below w.heap.size w w' := by
  have bb : Below w.heap.size w (w.alloc (.cells (cmA k c s n v) 23)) := (Below.refl _ _).alloc (Nat.le_refl _) _
  have bc := Bc.made w k c s n v
  have hi := comInfo k c s n v
  generalize hW : w.alloc (.cells (cmA k c s n v) 23) = W at bb bc
  go_enter Tryd.func12, Tryd.ntmps12
  go_wp2_with (refine wpList_load_row rfl 23 _ rfl w.heap.size rfl 23 _ (0, 0) _ bc.row Tryd.underlying23 rfl hi ?_)
  clear hW
  refine (comFault_any k c s n v W).mono ?_
  rintro e w1 ⟨rfl, b1⟩
  have d1 : Below w.heap.size w w1 := bb.trans (b1.mono bb.size)
  replace bc := bc.below b1
  clear b1 bb
  by_cases h1 : comE k c s n v = 0
  · have HE : Hid (encL k c s n v = encK [k, c, s, n, v] 5) := (encL_ok h1).trans (encK_five k c s n v).symm
    have hz := comE_zero h1
    have HS : Hid (∀ j, j < 5 → 0 ≤ [k, c, s, n, v].getD j 0 ∧ [k, c, s, n, v].getD j 0 < 2147483648) := by
      unfold Hid
      obtain ⟨hk, hc⟩ := hz
      unfold InC at hc
      intro j hj
      rcases (by omega : j = 0 ∨ j = 1 ∨ j = 2 ∨ j = 3 ∨ j = 4) with rfl | rfl | rfl | rfl | rfl
      · show 0 ≤ k ∧ k < 2147483648; omega
      · show 0 ≤ c ∧ c < 2147483648; omega
      · show 0 ≤ s ∧ s < 2147483648; omega
      · show 0 ≤ n ∧ n < 2147483648; omega
      · show 0 ≤ v ∧ v < 2147483648; omega
    have HL : Hid ([k, c, s, n, v].length = 5) := rfl
    have HZ : Hid (comE k c s n v = 0) := h1
    rw [h1]
    clear hz h1
    obtain ⟨c0, c1, c2, c3, c4⟩ := cmA_cells bc.row
    have b2 : Below w1.heap.size w1 (w1.alloc (.cells (cmA k c s n v) 3)) := (Below.refl _ _).alloc (Nat.le_refl _) _
    have r2 := heap_alloc_new w1 (.cells (cmA k c s n v) 3)
    have hN : ∀ wr, Below (w1.heap.size + 1) (w1.alloc (.cells (cmA k c s n v) 3)) wr → ∀ j, j < 5 → wr.cell? ⟨w1.heap.size, j, none⟩ = some (.int .i64 ([k, c, s, n, v].getD j 0)) := fun wr hb j hj => by
      rw [cell_of_row _ _ j _ _ _ ((hb.block w1.heap.size (by omega)).trans r2)]
      rcases (by omega : j = 0 ∨ j = 1 ∨ j = 2 ∨ j = 3 ∨ j = 4) with rfl | rfl | rfl | rfl | rfl <;> rfl
    have HN : Hid _ := hN
    have z2 : (w1.alloc (.cells (cmA k c s n v) 3)).heap.size = w1.heap.size + 1 := by simp
    have hW2 : w1.alloc (.cells #[.int .i64 k, .int .i64 c, .int .i64 s, .int .i64 n, .int .i64 v] 3) = w1.alloc (.cells (cmA k c s n v) 3) := rfl
    clear bc hN r2
    generalize w1.alloc (.cells (cmA k c s n v) 3) = W2 at b2 HN z2 hW2
    go_wp2_with fail
    clear hW2 c0 c1 c2 c3 c4
    have hwB : w.heap.size ≤ w1.heap.size := d1.size
    have d2 := d1.trans (b2.mono hwB)
    generalize [k, c, s, n, v] = L at HE HS HN HL
    generalize w1.heap.size = B at b2 HN hwB z2
    go_loopw [6, 7] (fun v iv wr => ∃ j : Nat, j ≤ 5 ∧ iv = .int .i64 (j : Int) ∧ wr.ownsRow (B + 1) 5 1 v (encK L j).length ((encK L j).map (Value.int .u8)) ∧ Below (B + 1) W2 wr) (fun _ iv _ => (5 - intOf iv).toNat)
    case atStart => exact ⟨0, by omega, rfl, World.ownsRow_nil _ _ _ _, Below.refl _ _⟩
    case round =>
      obtain ⟨j, hj, rfl, hown, hbel⟩ := hrel
      by_cases hj5 : j < 5
      · have hji : (j : Int) < 5 := by omega
        have hcj := HN.out _ hbel j hj5
        have hsj := HS.out j hj5
        have HK : Hid (encK L (j + 1) = encK L j ++ headL (L.getD j 0)) := encK_succ L j (by rw [HL.out]; omega)
        have HQ := encK_length L j
        have HO : Hid _ := hown
        have hz : B + 1 ≤ wr.heap.size := by have := hbel.size; omega
        have hlt := hown.lt
        clear hown
        generalize L.getD j 0 = X at hcj hsj HK
        go_wp2_with fail
        refine (oHead_any X wr hsj.1 hsj.2).mono ?_
        rintro e w5 ⟨v5, rfl, s5, b5⟩
        have o5 := owns_belowO HO.out b5
        have d5 := hbel.trans (b5.mono hz)
        have z5 : B + 1 ≤ w5.heap.size := Nat.le_trans hz b5.size
        have hlt5 := o5.lt
        clear HO hcj hsj b5 hlt
        generalize encK L j = E at o5 HK HQ
        generalize headL X = Y at s5 HK
        have hY := s5.len
        go_wp2_with (at_builtin; refine wpList_append_sl _ rfl _ _ 27 rfl (B + 1) 5 Tryd.underlying27 info5 _ _ rfl rfl E Y o5 s5 (by omega) z5 ?_)
        intro v6 w6 o6 g6
        have d6 : Below (B + 1) W2 w6 := d5.grown g6 z5 (fun k hk => (hlt5 k hk).1)
        have HO6 : Hid (w6.ownsRow (B + 1) 5 1 v6 (encK L (j + 1)).length ((encK L (j + 1)).map (Value.int .u8))) := by unfold Hid; rw [HK.out]; simpa using o6
        clear o6 g6 HK HQ o5 s5 hlt5
        go_wp2
        go_roundw
        case rel => exact ⟨j + 1, by omega, by go_num, HO6.out, d6⟩
        case measure => simp [intOf]; omega
      · obtain rfl : j = 5 := by omega
        rw [show ((5 : Nat) : Int) = 5 from rfl]
        have HO : Hid _ := hown
        clear hown
        go_wp2
        go_ret2
        rw [HE.out, HZ.out]
        exact ⟨_, rfl, owns_lower HO.out (by omega), d2.trans (hbel.mono (by omega))⟩
  · have HE : Hid (encL k c s n v = []) := encL_no h1
    go_wp2
    go_ret2
    rw [HE.out]
    exact ⟨_, rfl, World.ownsRow_nil _ _ _ _, d1⟩
end Go.Proofs.YtjlboglcffdnoaaDoor
