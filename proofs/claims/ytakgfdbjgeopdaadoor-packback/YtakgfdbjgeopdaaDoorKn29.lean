/-
  The walks of slices.Grow of nothing, and of slices.Concat.
-/
import Derived.Lib.AppendZeros
import Derived.Test.YtakgfdbjgeopdaaDoorKn1
import Derived.Test.YtakgfdbjgeopdaaDoorKn3
import Derived.Test.YtakgfdbjgeopdaaDoorKn15
import Derived.Test.YtakgfdbjgeopdaaDoorKn28
import Derived.Test.YtakgfdbjgeopdaaDoorKn8
namespace Go.Proofs.YtakgfdbjgeopdaaDoor
open Go.RowKit
set_option linter.unusedVariables false

theorem zeroC_size (n : Nat) : (Builtin.zeroCells (Value.int .u8 0).cells n).size = n := by
  simp [Builtin.zeroCells, Value.cells]
set_option maxHeartbeats 1000000 in
set_option maxRecDepth 100000 in
theorem grow_nil (n : Nat) (w : World) (h0 : 0 < n) (h1 : n ≤ 20000) :
    Calls Tryd.prog 38 #[.slice none 0 0, .int .i64 (n : Int)] w fun e w' => ∃ v', e = .returned v' ∧ w'.ownsRow w.heap.size 5 1 v' 0 [] ∧ Below w.heap.size w w' := by
  obtain ⟨i0, hi, hz0, hz1, hz2⟩ := info_parts info5
  have hr := fun ty => Lib.run_append_nil_zeros (P := Tryd.prog) w 22 3 ty 5 i0 (.int .u8 0) .i64 .i64 Tryd.underlying22 Tryd.underlying3 hi hz0 n h0 (by rw [hz1]; decide) (by omega) (by rw [hz2]; omega)
  have hge := grownCap_ge w n 0 5
  have hcm := grownCap_le_maxLen w n 0 5 (by unfold maxLen; omega)
  have hcs : (Builtin.zeroCells (Value.int .u8 0).cells n ++ Builtin.zeroCells (Value.int .u8 0).cells (grownCap w n 0 5 - n)).size = grownCap w n 0 5 * 1 := by rw [Array.size_append, zeroC_size, zeroC_size]; omega
  generalize Builtin.zeroCells (Value.int .u8 0).cells n ++ Builtin.zeroCells (Value.int .u8 0).cells (grownCap w n 0 5 - n) = Z at hr hcs
  generalize grownCap w n 0 5 = cap at hr hcs hge hcm
  have bb : Below w.heap.size w (w.drew.alloc (.cells Z 5)) := ((Below.refl w.heap.size w).drew).alloc (by exact Nat.le_refl _) _
  have rr : (w.drew.alloc (.cells Z 5)).heap[w.heap.size]? = some (.cells Z 5) := heap_alloc_new _ _
  generalize w.drew.alloc (.cells Z 5) = W at hr bb rr
  have ho : W.ownsRow w.heap.size 5 1 (.slice (some ⟨w.heap.size, 0, none⟩) 0 cap) 0 [] := ⟨by simp, .inr ⟨w.heap.size, cap, Z, rfl, Nat.le_refl _, rr, by omega, hcm, hcs, by simp⟩⟩
  have hsl : ∀ W', (Instr.slice 22 (.slice (some ⟨w.heap.size, 0, none⟩) n cap) none (some (.int .i64 0)) none).run Tryd.prog W' = .ok (.slice (some ⟨w.heap.size, 0, none⟩) 0 cap) W' := fun W' => by
    rw [run_slice_h (P := Tryd.prog) W' 22 (some ⟨w.heap.size, 0, none⟩) n cap Tryd.underlying22 .i64 0 (by omega) (by omega)]
    have e : Tryd.prog.elem 22 = 5 := by kernel_rfl
    rw [e, size5w]
    simp [Result.andThen, sliced, Addr.add_mid]
  have hpos : (0 : Int) < (n : Int) := by omega
  clear rr hcs hcm hge hi hz0 hz1 hz2
  go_enter Tryd.func38, Tryd.ntmps38
  go_wp2_with (at_builtin; refine Lib.wpList_append_run _ rfl _ _ _ _ rfl _ _ rfl rfl _ _ (hr _) ?_)
  go_ret
  exact ⟨_, rfl, ho, bb⟩
set_option maxHeartbeats 1000000 in
theorem concat_any (g n cap : Nat) (vs : List Value) (ls : List (List Int)) (w : World) (hg : g < w.heap.size) (hn : n ≤ 10) (hls : ls.length = n)
    (hc : ∀ i, i < n → w.cell? ⟨g, i, none⟩ = some (vs.getD i undef)) (hs : ∀ i, i < n → Sl w (vs.getD i undef) (ls.getD i [])) (hl : ∀ l ∈ ls, l.length ≤ 1000) (hp : 0 < ls.flatten.length) :
    Calls Tryd.prog 23 #[.slice (some ⟨g, 0, none⟩) n cap] w fun e w' => ∃ v', e = .returned v' ∧ w'.ownsRow w.heap.size 5 1 v' ls.flatten.length (ls.flatten.map (Value.int .u8)) ∧ Below w.heap.size w w' := by
  have HLS : Hid (ls.length = n) := hls
  have HC : Hid _ := hc
  have HS : Hid _ := hs
  have HL : Hid _ := hl
  have HP : Hid _ := hp
  clear hls hc hs hl hp
  go_enter Tryd.func23, Tryd.ntmps23
  go_wp2_with fail
  go_loopw [3, 11] (fun sv i wr => ∃ j : Nat, j ≤ n ∧ i = .int .i64 j ∧ sv = .int .i64 ((ls.take j).flatten.length : Int) ∧ w = wr) (fun _ i _ => n - (intOf i).toNat)
  case atStart => exact ⟨0, by omega, rfl, by simp, rfl⟩
  case round =>
    obtain ⟨j, hj, rfl, rfl, rfl⟩ := hrel
    have hfl := flat_le (ls.take j) (fun l hl => HL.out l (List.mem_of_mem_take hl))
    by_cases hjn : j < n
    · have hf2 : (ls.take j).flatten.length ≤ 10000 := by rw [List.length_take] at hfl; omega
      have HF : Hid ((ls.take (j + 1)).flatten.length = (ls.take j).flatten.length + (ls.getD j []).length) := by unfold Hid; rw [flat_snoc ls j (by rw [HLS.out]; exact hjn), List.length_append]
      have sj := HS.out j hjn
      have cj := HC.out j hjn
      have hlj : (ls.getD j []).length ≤ 1000 := by
        have hj2 : j < ls.length := by rw [HLS.out]; exact hjn
        have : ls.getD j [] = ls[j] := by simp [List.getD, List.getElem?_eq_getElem hj2]
        rw [this]; exact HL.out _ (List.getElem_mem hj2)
      generalize vs.getD j undef = vj at sj cj
      generalize ls.getD j [] = lj at sj HF hlj
      generalize (ls.take j).flatten.length = pre at HF hf2
      clear hfl
      obtain ⟨⟨aj, kj, rfl, _, _, _⟩, _, _⟩ := sj
      generalize lj.length = nj at *
      go_wp2
      go_roundw
      case rel => exact ⟨j + 1, by omega, by go_num, by rw [HF.out]; go_num, by simp⟩
      case measure => simp [intOf]; omega
    · obtain rfl : j = n := by omega
      have HT : Hid (ls.take j = ls) := List.take_of_length_le (by rw [HLS.out]; exact Nat.le_refl _)
      have hz : ls.flatten.length ≤ 10000 := by rw [HT.out, HLS.out] at hfl; omega
      rw [HT.out]
      clear hfl
      have HZ := HP.out
      generalize hz2 : ls.flatten.length = Z at hz HZ
      have HZZ : Hid (ls.flatten.length = Z) := hz2
      clear hz2
      go_wp2_with fail
      refine (grow_nil Z w HZ (by omega)).mono ?_
      rintro e w1 ⟨v1, rfl, ho1, hb1⟩
      clear HZ hz
      obtain ⟨g1, c1, rfl⟩ := tOwns_shape ho1
      have HO1 : Hid (w1.ownsRow w.heap.size 5 1 (.slice g1 0 c1) (ls.take 0).flatten.length ((ls.take 0).flatten.map (Value.int .u8))) := by unfold Hid; simpa using ho1
      clear ho1
      go_wp2_with fail
      go_loopw [6, 27] (fun v i wr => ∃ k : Nat, k ≤ j ∧ i = .int .i64 k ∧ Hid (wr.ownsRow w.heap.size 5 1 v (ls.take k).flatten.length ((ls.take k).flatten.map (Value.int .u8))) ∧ Below w.heap.size w wr) (fun _ i _ => j - (intOf i).toNat)
      case atStart => exact ⟨0, by omega, rfl, HO1, hb1⟩
      case round =>
        obtain ⟨k, hk, rfl, hown0, hb⟩ := hrel
        have hown := hown0.out
        clear hown0 HO1 hb1
        have hlt := hown.lt
        by_cases hkn : k < j
        · have hfl := flat_le (ls.take k) (fun l hl => HL.out l (List.mem_of_mem_take hl))
          have hf2 : (ls.take k).flatten.length ≤ 10000 := by rw [List.length_take] at hfl; omega
          have HF : Hid ((ls.take (k + 1)).flatten = (ls.take k).flatten ++ ls.getD k []) := flat_snoc ls k (by rw [HLS.out]; exact hkn)
          have sj := (HS.out k hkn).below hb
          have cj := (hb.cell (p := ⟨g, k, none⟩) hg).trans (HC.out k hkn)
          have hlj : (ls.getD k []).length ≤ 1000 := by
            have hj2 : k < ls.length := by rw [HLS.out]; exact hkn
            have : ls.getD k [] = ls[k] := by simp [List.getD, List.getElem?_eq_getElem hj2]
            rw [this]; exact HL.out _ (List.getElem_mem hj2)
          generalize vs.getD k undef = vj at sj cj
          generalize ls.getD k [] = lj at sj HF hlj
          generalize (ls.take k).flatten = pre at hown HF hf2
          clear hfl
          have sj2 := sj
          obtain ⟨⟨aj, kj, rfl, _, _, _⟩, _, _⟩ := sj
          go_wp2_with (at_builtin; refine wpList_append_sl _ rfl _ _ 22 rfl w.heap.size 5 Tryd.underlying22 info5 _ _ rfl rfl pre lj hown sj2 (by omega) hb.size ?_)
          intro v2 w2 ho2 hg2
          have ho2' : w2.ownsRow w.heap.size 5 1 v2 (pre ++ lj).length ((pre ++ lj).map (Value.int .u8)) := by simpa using ho2
          have hb2 : Below w.heap.size w w2 := hb.grown hg2 hb.size (fun k hk => (hlt k hk).1)
          clear ho2 hg2 hown hlt hb sj2 cj
          go_wp2
          go_roundw
          case rel => exact ⟨k + 1, by omega, by go_num, by rw [HF.out]; exact ho2', hb2⟩
          case measure => simp [intOf]; omega
        · have HJ : Hid (ls.take k = ls) := by unfold Hid; exact List.take_of_length_le (by rw [HLS.out]; omega)
          go_wp2
          go_ret
          refine ⟨u6, rfl, ?_, hb⟩
          rw [HJ.out] at hown
          exact hown
theorem concat3 (v0 v1 v2 : Value) (l0 l1 l2 : List Int) (w : World) (e : TypeId) (g : Nat) (hg : g = w.heap.size) (h0 : Sl w v0 l0) (h1 : Sl w v1 l1) (h2 : Sl w v2 l2) (q0 : l0.length ≤ 1000) (q1 : l1.length ≤ 1000) (q2 : l2.length ≤ 1000) (q3 : 0 < l0.length) :
    Calls Tryd.prog 23 #[.slice (some ⟨g, 0, none⟩) 3 3] (w.alloc (.cells #[v0, v1, v2] e)) fun e w' => ∃ v', e = .returned v' ∧ w'.ownsRow w.heap.size 5 1 v' (l0 ++ (l1 ++ l2)).length ((l0 ++ (l1 ++ l2)).map (Value.int .u8)) ∧ Below w.heap.size w w' := by
  subst hg
  have ba : Below w.heap.size w (w.alloc (.cells #[v0, v1, v2] e)) := (Below.refl _ _).alloc (Nat.le_refl _) _
  refine (concat_any w.heap.size 3 3 [v0, v1, v2] [l0, l1, l2] (w.alloc (.cells #[v0, v1, v2] e)) (by simp) (by omega) rfl ?_ ?_ ?_ ?_).mono ?_
  · intro i hi
    rw [cell_of_row _ _ i _ _ _ (heap_alloc_new w _)]
    obtain rfl | rfl | rfl : i = 0 ∨ i = 1 ∨ i = 2 := by omega
    all_goals rfl
  · intro i hi
    obtain rfl | rfl | rfl : i = 0 ∨ i = 1 ∨ i = 2 := by omega
    · exact h0.below ba
    · exact h1.below ba
    · exact h2.below ba
  · intro l hl
    simp only [List.mem_cons, List.not_mem_nil, or_false] at hl
    rcases hl with rfl | rfl | rfl
    · exact q0
    · exact q1
    · exact q2
  · simp; omega
  · rintro e w2 ⟨v2, rfl, ho, hb⟩
    exact ⟨v2, rfl, owns_lower (by simpa using ho) (by simp), ba.trans (hb.mono (by simp))⟩
end Go.Proofs.YtakgfdbjgeopdaaDoor
/-
  Two lists put together, by slices.Concat; and what a client packs, in plain lists.
-/
namespace Go.Proofs.YtakgfdbjgeopdaaDoor
open Go.RowKit
set_option linter.unusedVariables false

theorem concat2 {v0 v1 : Value} {l0 l1 : List Int} {w : World} {e : TypeId} {g : Nat} (hr : w.heap[g]? = some (.cells #[v0, v1] e)) (h0 : Sl w v0 l0) (h1 : Sl w v1 l1) (q0 : l0.length ≤ 1000) (q1 : l1.length ≤ 1000) (q3 : 0 < l0.length) :
    Calls Tryd.prog 23 #[.slice (some ⟨g, 0, none⟩) 2 2] w fun e w' => ∃ v', e = .returned v' ∧ w'.ownsRow w.heap.size 5 1 v' (l0 ++ l1).length ((l0 ++ l1).map (Value.int .u8)) ∧ Below w.heap.size w w' := by
  refine (concat_any g 2 2 [v0, v1] [l0, l1] w (Array.getElem?_eq_some_iff.1 hr).1 (by omega) rfl ?_ ?_ ?_ ?_).mono ?_
  · intro i hi
    rw [cell_of_row _ _ i _ _ _ hr]
    obtain rfl | rfl : i = 0 ∨ i = 1 := by omega
    all_goals rfl
  · intro i hi
    obtain rfl | rfl : i = 0 ∨ i = 1 := by omega
    · exact h0
    · exact h1
  · intro l hl
    simp only [List.mem_cons, List.not_mem_nil, or_false] at hl
    rcases hl with rfl | rfl
    · exact q0
    · exact q1
  · simp; omega
  · rintro e w2 ⟨v2, rfl, ho, hb⟩
    exact ⟨v2, rfl, by simpa using ho, hb⟩
end Go.Proofs.YtakgfdbjgeopdaaDoor
