/-
  The walks of the document's own sums, and of noughts.
-/
import Derived.Test.YtmpefofifbehjaaDoorKf20
import Derived.Test.YtmpefofifbehjaaDoorKf24
import Derived.Test.YtmpefofifbehjaaDoorKf15
import Derived.Test.YtmpefofifbehjaaDoorKf16
import Derived.Test.YtmpefofifbehjaaDoorKf8
import Derived.Test.YtmpefofifbehjaaDoorKf6
import Derived.Test.YtmpefofifbehjaaDoorKf2
namespace Go.Proofs.YtmpefofifbehjaaDoor
open Go.RowKit
set_option linter.unusedVariables false

set_option maxHeartbeats 2000000 in
set_option maxRecDepth 100000 in
theorem rlink_any (a0 : Option Addr) (c0 : Nat) (sum : List Int) (k c q n v C A : Int) (w : World) (hS : Sl w (.slice a0 32 c0) sum) (hl : sum.length = 32) (he : comE k c q n v = 0) (C0 : 0 ≤ C) (C1 : C < 2147483648) (A0 : 0 ≤ A) (A1 : A < 2147483648) :
    Calls Tryd.prog 28 #[.slice a0 32 c0, .agg #[.int .i64 k, .int .i64 c, .int .i64 q, .int .i64 n, .int .i64 v], .agg #[.int .i64 C, .int .i64 A]] w fun e w' => ∃ g cap, e = .returned (.slice (some ⟨g, 0, none⟩) 32 cap) ∧ w.heap.size ≤ g ∧ So w' g cap (lnk sum ⟨k, c, q, n, v⟩ C A) ∧ Below w.heap.size w w' := by
  have HL : Hid (sum.length = 32) := hl
  clear hl
  obtain ⟨W0, hW0⟩ : ∃ W0, (w.alloc (.cells #[.int .i64 k, .int .i64 c, .int .i64 q, .int .i64 n, .int .i64 v] 31)).alloc (.cells #[.int .i64 C, .int .i64 A] 25) = W0 := ⟨_, rfl⟩
  have r0_c : W0.heap[w.heap.size]? = some (.cells #[.int .i64 k, .int .i64 c, .int .i64 q, .int .i64 n, .int .i64 v] 31) := by rw [← hW0]; exact t_alloc2_0 _ _ _
  have r0_a : W0.heap[w.heap.size + 1]? = some (.cells #[.int .i64 C, .int .i64 A] 25) := by rw [← hW0]; exact t_alloc2_1 _ _ _
  have bb : Below w.heap.size w W0 := by rw [← hW0]; exact t_allocB2 _ _ _
  have l0_c : w.heap.size < W0.heap.size := (Array.getElem?_eq_some_iff.1 r0_c).1
  have l0_a : (w.heap.size + 1) < W0.heap.size := (Array.getElem?_eq_some_iff.1 r0_a).1
  have sl0_s := hS.below bb
  go_enter Tryd.func28, Tryd.ntmps28
  go_wp2_with ((with_reducible (refine tpLook ?_)); (refine wpList_load_row rfl 31 _ rfl w.heap.size rfl 31 _ (0, 0) _ r0_c Tryd.underlying31 rfl cmSz5 ?_))
  clear hW0
  have key := comBytes_any k c q n v W0
  rw [he, encL_ok he] at key
  simp only [cmA] at key
  refine (key).mono ?_
  rintro e w1 ⟨v1, rfl, o1, bw1⟩
  have s1 := Sl.ofOwns o1 (by rw [comL_length]; omega) (comL_byte _ _ _ _ _)
  clear o1 key
  have d1 := bb.trans (bw1.mono bb.size)
  have rw1_c := (bw1.block _ l0_c).trans r0_c
  have lw1_c := Nat.lt_of_lt_of_le l0_c bw1.size
  have rw1_a := (bw1.block _ l0_a).trans r0_a
  have lw1_a := Nat.lt_of_lt_of_le l0_a bw1.size
  have sl1_s := sl0_s.below bw1
  clear l0_c r0_c l0_a r0_a sl0_s
  clear bw1
  have B0 : Hid (∀ x ∈ sum, 0 ≤ x ∧ x < 256) := sl1_s.byte
  go_wp2_with fail
  have ll2 : (sum ++ comL k c q n v).length = 52 := by simp only [List.length_append, HL.out, comL_length]
  have hla2 : (sum).length ≤ 100000 := by have := ll2; rw [List.length_append] at this; omega
  have hlb2 : (comL k c q n v).length ≤ 100000 := by have := ll2; rw [List.length_append] at this; omega
  refine (ref_joined _ _ (sum) (comL k c q n v) w1 sl1_s s1 hla2 hlb2).mono ?_
  rintro e wj2 ⟨vj2, rfl, oj2, bwj2⟩
  have sj2 := Sl.ofOwns oj2 (by rw [ll2]; omega) (fun x hx => by rcases List.mem_append.1 hx with h9 | h9; (· exact B0.out x h9); exact comL_byte _ _ _ _ _ x h9)
  have B1 : Hid (∀ x ∈ sum ++ comL k c q n v, 0 ≤ x ∧ x < 256) := sj2.byte
  clear oj2 hla2 hlb2
  have d2 := d1.trans (bwj2.mono d1.size)
  have rw2_c := (bwj2.block _ lw1_c).trans rw1_c
  have lw2_c := Nat.lt_of_lt_of_le lw1_c bwj2.size
  have rw2_a := (bwj2.block _ lw1_a).trans rw1_a
  have lw2_a := Nat.lt_of_lt_of_le lw1_a bwj2.size
  have sl2_s := sl1_s.below bwj2
  have sl2_m := s1.below bwj2
  clear lw1_c rw1_c lw1_a rw1_a sl1_s s1
  clear bwj2
  have cc1_a0 : wj2.cell? ⟨(w.heap.size + 1), 0, none⟩ = some (.int .i64 C) := cell_of_row _ _ 0 _ _ _ rw2_a
  have cc1_a1 : wj2.cell? ⟨(w.heap.size + 1), 1, none⟩ = some (.int .i64 A) := cell_of_row _ _ 1 _ _ _ rw2_a
  go_wp2_with fail
  refine (oHead_any C wj2 C0 C1).mono ?_
  rintro e wh3 ⟨vh3, rfl, sh3, bwh3⟩
  have d3 := d2.trans (bwh3.mono d2.size)
  have rw3_c := (bwh3.block _ lw2_c).trans rw2_c
  have lw3_c := Nat.lt_of_lt_of_le lw2_c bwh3.size
  have rw3_a := (bwh3.block _ lw2_a).trans rw2_a
  have lw3_a := Nat.lt_of_lt_of_le lw2_a bwh3.size
  have sl3_j2 := sj2.below bwh3
  clear lw2_c rw2_c lw2_a rw2_a sj2
  clear bwh3
  go_wp2_with fail
  have ll3 : (sum ++ comL k c q n v ++ headL C).length = 56 := by simp only [List.length_append, HL.out, comL_length, headL_length]
  have hla3 : (sum ++ comL k c q n v).length ≤ 100000 := by have := ll3; rw [List.length_append] at this; omega
  have hlb3 : (headL C).length ≤ 100000 := by have := ll3; rw [List.length_append] at this; omega
  refine (ref_joined _ _ (sum ++ comL k c q n v) (headL C) wh3 sl3_j2 sh3 hla3 hlb3).mono ?_
  rintro e wj3 ⟨vj3, rfl, oj3, bwj3⟩
  have sj3 := Sl.ofOwns oj3 (by rw [ll3]; omega) (fun x hx => by rcases List.mem_append.1 hx with h9 | h9; (· exact B1.out x h9); exact headL_byte _ x h9)
  have B2 : Hid (∀ x ∈ sum ++ comL k c q n v ++ headL C, 0 ≤ x ∧ x < 256) := sj3.byte
  clear oj3 hla3 hlb3
  have d4 := d3.trans (bwj3.mono d3.size)
  have rw4_c := (bwj3.block _ lw3_c).trans rw3_c
  have lw4_c := Nat.lt_of_lt_of_le lw3_c bwj3.size
  have rw4_a := (bwj3.block _ lw3_a).trans rw3_a
  have lw4_a := Nat.lt_of_lt_of_le lw3_a bwj3.size
  have sl4_j2 := sl3_j2.below bwj3
  have sl4_h := sh3.below bwj3
  clear lw3_c rw3_c lw3_a rw3_a sl3_j2 sh3
  clear bwj3
  have cc2_a0 : wj3.cell? ⟨(w.heap.size + 1), 0, none⟩ = some (.int .i64 C) := cell_of_row _ _ 0 _ _ _ rw4_a
  have cc2_a1 : wj3.cell? ⟨(w.heap.size + 1), 1, none⟩ = some (.int .i64 A) := cell_of_row _ _ 1 _ _ _ rw4_a
  go_wp2_with fail
  refine (oHead_any A wj3 A0 A1).mono ?_
  rintro e wh4 ⟨vh4, rfl, sh4, bwh4⟩
  have d5 := d4.trans (bwh4.mono d4.size)
  have rw5_c := (bwh4.block _ lw4_c).trans rw4_c
  have lw5_c := Nat.lt_of_lt_of_le lw4_c bwh4.size
  have rw5_a := (bwh4.block _ lw4_a).trans rw4_a
  have lw5_a := Nat.lt_of_lt_of_le lw4_a bwh4.size
  have sl5_j3 := sj3.below bwh4
  clear lw4_c rw4_c lw4_a rw4_a sj3
  clear bwh4
  go_wp2_with fail
  have ll4 : (sum ++ comL k c q n v ++ headL C ++ headL A).length = 60 := by simp only [List.length_append, HL.out, comL_length, headL_length]
  have hla4 : (sum ++ comL k c q n v ++ headL C).length ≤ 100000 := by have := ll4; rw [List.length_append] at this; omega
  have hlb4 : (headL A).length ≤ 100000 := by have := ll4; rw [List.length_append] at this; omega
  refine (ref_joined _ _ (sum ++ comL k c q n v ++ headL C) (headL A) wh4 sl5_j3 sh4 hla4 hlb4).mono ?_
  rintro e wj4 ⟨vj4, rfl, oj4, bwj4⟩
  have sj4 := Sl.ofOwns oj4 (by rw [ll4]; omega) (fun x hx => by rcases List.mem_append.1 hx with h9 | h9; (· exact B2.out x h9); exact headL_byte _ x h9)
  have B3 : Hid (∀ x ∈ sum ++ comL k c q n v ++ headL C ++ headL A, 0 ≤ x ∧ x < 256) := sj4.byte
  clear oj4 hla4 hlb4
  have d6 := d5.trans (bwj4.mono d5.size)
  have rw6_c := (bwj4.block _ lw5_c).trans rw5_c
  have lw6_c := Nat.lt_of_lt_of_le lw5_c bwj4.size
  have rw6_a := (bwj4.block _ lw5_a).trans rw5_a
  have lw6_a := Nat.lt_of_lt_of_le lw5_a bwj4.size
  have sl6_j3 := sl5_j3.below bwj4
  have sl6_h := sh4.below bwj4
  clear lw5_c rw5_c lw5_a rw5_a sl5_j3 sh4
  clear bwj4
  go_wp2_with fail
  have l60 : (sum ++ comL k c q n v ++ headL C ++ headL A).length ≤ 10000 := by rw [ll4]; omega
  refine (digested_any _ (sum ++ comL k c q n v ++ headL C ++ headL A) wj4 sj4 l60).mono ?_
  rintro e w9 ⟨v9, rfl, o9, b9⟩
  rw [dig_length] at o9
  obtain ⟨g4, c4, rfl, hg4, s4⟩ := So.ofOwns o9 (dig_length _) (dig_byte _)
  have dd := d6.trans (b9.mono d6.size)
  have hge : w.heap.size ≤ g4 := Nat.le_trans d6.size hg4
  have HS4 : Hid (So w9 g4 c4 (lnk sum ⟨k, c, q, n, v⟩ C A)) := by unfold Hid lnk; rw [show sum ++ (comL k c q n v ++ (headL C ++ headL A)) = sum ++ comL k c q n v ++ headL C ++ headL A by simp only [List.append_assoc]]; exact s4
  clear s4 b9 hg4 l60 o9
  go_wp2
  go_ret
  exact ⟨g4, c4, rfl, hge, HS4.out, dd⟩
set_option maxHeartbeats 2000000 in
set_option maxRecDepth 100000 in
theorem noughts_any (w : World) :
    Calls Tryd.prog 27 #[] w fun e w' => ∃ v', e = .returned v' ∧ w'.ownsRow w.heap.size 5 1 v' 32 ((List.replicate 32 (0 : Int)).map (Value.int .u8)) ∧ Below w.heap.size w w' := by
  have bb := Below.refl w.heap.size w
  go_enter Tryd.func27, Tryd.ntmps27
  go_wp2_with fail
  go_loopw [1, 2] (fun v iv wr => ∃ i : Nat, i ≤ 32 ∧ iv = .int .i64 (i : Int) ∧ Hid (wr.ownsRow w.heap.size 5 1 v (List.replicate i (0 : Int)).length ((List.replicate i (0 : Int)).map (Value.int .u8))) ∧ Below w.heap.size w wr) (fun _ iv _ => (32 - intOf iv).toNat)
  case atStart => exact ⟨0, by omega, rfl, World.ownsRow_nil _ _ _ _, bb⟩
  case round =>
    obtain ⟨i, hi, rfl, hown0, hbel⟩ := hrel
    have hown := hown0.out
    clear hown0
    have hlt := hown.lt
    have hzz := hbel.size
    by_cases h2 : i < 32
    · have h2I : (i : Int) < 32 := by omega
      have HL : Hid (List.replicate i (0 : Int) ++ [0] = List.replicate (i + 1) (0 : Int)) := by unfold Hid; rw [List.replicate_succ']
      have hlen : (List.replicate i (0 : Int)).length ≤ 32 := by rw [List.length_replicate]; omega
      generalize List.replicate i (0 : Int) = pre at hown HL hlen
      go_wp2_with (at_builtin; refine wpList_append_sl _ rfl _ _ 59 rfl w.heap.size 5 Tryd.underlying59 info5 _ _ rfl rfl pre [0] (hown.alloc _) (Sl.one _ 0 _ rfl (by omega)) (by simp; omega) (by simp; omega) ?_)
      intro v2 w2 ho2 hg2
      have hb2 : Below w.heap.size w w2 := (hbel.alloc hzz _).grown hg2 (by simp; omega) (fun k hk => (hlt k hk).1)
      have HO2 : Hid (w2.ownsRow w.heap.size 5 1 v2 (List.replicate (i + 1) (0 : Int)).length ((List.replicate (i + 1) (0 : Int)).map (Value.int .u8))) := by
        unfold Hid
        rw [← HL.out]
        simpa using ho2
      clear ho2 hg2 hown hlt hbel HL
      go_wp2
      go_roundw
      case rel => exact ⟨i + 1, by omega, by go_num, HO2, hb2⟩
      case measure => simp [intOf]; omega
    · obtain rfl : i = 32 := by omega
      have HO2 : Hid (wr.ownsRow w.heap.size 5 1 u1 32 ((List.replicate 32 (0 : Int)).map (Value.int .u8))) := by
        unfold Hid
        rw [List.length_replicate] at hown
        exact hown
      clear hown hlt
      go_wp2
      go_ret
      exact ⟨_, rfl, HO2.out, hbel⟩
end Go.Proofs.YtmpefofifbehjaaDoor
/-
  The walk of the document's own look at a store.
-/
namespace Go.Proofs.YtmpefofifbehjaaDoor
open Go.RowKit
set_option linter.unusedVariables false

set_option maxHeartbeats 1000000 in
set_option maxRecDepth 100000 in
theorem storeFault_any (s : Sto) (w : World) :
    Calls Tryd.prog 23 #[.agg (stA s)] w fun e w' => e = .returned (.int .i64 (stoE s)) ∧ Below w.heap.size w w' := by
  have bb : Below w.heap.size w (w.alloc (.cells (stA s) 29)) := (Below.refl _ _).alloc (Nat.le_refl _) _
  have hS : Bs (w.alloc (.cells (stA s) 29)) w.heap.size s := heap_alloc_new _ _
  generalize hW : w.alloc (.cells (stA s) 29) = W at bb hS
  go_enter Tryd.func23, Tryd.ntmps23
  go_wp2_with fail
  clear hW
  go_loopw [3] (fun iv wr => ∃ i : Nat, i ≤ 8 ∧ iv = .int .i64 (i : Int) ∧ Hid (∀ j, j < i → VaB (s.V j) ∧ ClB (s.L j) (s.C j) (s.A j)) ∧ W = wr) (fun iv _ => (8 - intOf iv).toNat)
  case atStart => exact ⟨0, by omega, rfl, fun j hj => by omega, rfl⟩
  case round =>
    obtain ⟨i, hi, rfl, hb, rfl⟩ := hrel
    by_cases hlt : i < 8
    · have hlt' : (i : Int) < 8 := by omega
      have i0 : (0 : Int) ≤ (i : Int) := by omega
      have cV := hS.cellV i hlt
      have cL := hS.cellL i hlt
      have c0 := hS.cellC i hlt
      have c1 := hS.cellA i hlt
      go_wp2_with fail
      refine (oIn_any (s.V i) 0 1073741824 _).mono ?_
      rintro e w1 ⟨rfl, rfl⟩
      by_cases hv : 0 ≤ s.V i ∧ s.V i ≤ 1073741824
      · rw [decide_eq_true hv]
        go_wp2_with fail
        refine (oIn_any (s.L i) 0 1048577 _).mono ?_
        rintro e w1 ⟨rfl, rfl⟩
        by_cases hl : 0 ≤ s.L i ∧ s.L i ≤ 1048577
        · rw [decide_eq_true hl]
          have hB : Hid ((s.L i = 0 → s.C i = 0 ∧ s.A i = 0) → ∀ j, j < i + 1 → VaB (s.V j) ∧ ClB (s.L j) (s.C j) (s.A j)) := fun g j hj => by
            by_cases h : j = i
            · subst h; exact ⟨hv, hl, g⟩
            · exact hb.out j (by omega)
          have hE : Hid (¬ (s.L i = 0 → s.C i = 0 ∧ s.A i = 0) → stoE s = 5) := fun g => stoE_no (fun h => g (h.2 i hlt).2)
          clear hb hv hl
          by_cases h0 : s.L i = 0
          · rw [h0] at cL ⊢
            by_cases hc : s.C i = 0
            · rw [hc] at c0
              by_cases ha : s.A i = 0
              · rw [ha] at c1
                have hB2 := hB.out (fun _ => ⟨hc, ha⟩)
                have HB2 : Hid (∀ j, j < i + 1 → VaB (s.V j) ∧ ClB (s.L j) (s.C j) (s.A j)) := hB2
                clear hB hB2 hE h0 hc ha
                go_wp2
                go_roundw
                case rel => exact ⟨i + 1, by omega, by go_num, HB2, by simp⟩
                case measure => simp [intOf]; omega
              · have hE2 : Hid (stoE s = 5) := hE.out (fun g => ha (g h0).2)
                have hne : (s.A i != 0) = true := by simpa using ha
                clear hB hE h0 hc ha
                go_wp2
                go_ret
                rw [hE2.out]
                exact ⟨rfl, bb⟩
            · have hE2 : Hid (stoE s = 5) := hE.out (fun g => hc (g h0).1)
              have hne : (s.C i != 0) = true := by simpa using hc
              clear hB hE h0 hc
              go_wp2
              go_ret
              rw [hE2.out]
              exact ⟨rfl, bb⟩
          · have hB2 := hB.out (fun g => absurd g h0)
            have HB2 : Hid (∀ j, j < i + 1 → VaB (s.V j) ∧ ClB (s.L j) (s.C j) (s.A j)) := hB2
            have hne : (s.L i == 0) = false := by simpa using h0
            clear hB hB2 hE
            go_wp2
            go_roundw
            case rel => exact ⟨i + 1, by omega, by go_num, HB2, by simp⟩
            case measure => simp [intOf]; omega
        · rw [decide_eq_false hl]
          have hE : Hid (stoE s = 5) := stoE_no (fun h => hl (h.2 i hlt).1)
          clear hl hb hv
          go_wp2
          go_ret
          rw [hE.out]
          exact ⟨rfl, bb⟩
      · rw [decide_eq_false hv]
        have hE : Hid (stoE s = 5) := stoE_no (fun h => hv (h.1 i hlt))
        clear hv hb
        go_wp2
        go_ret
        rw [hE.out]
        exact ⟨rfl, bb⟩
    · obtain rfl : i = 8 := by omega
      have hE : Hid (stoE s = 0) := stoE_ok ⟨fun j hj => (hb.out j hj).1, fun j hj => (hb.out j hj).2⟩
      clear hlt hi hb
      go_wp2
      go_ret
      rw [hE.out]
      exact ⟨rfl, bb⟩
end Go.Proofs.YtmpefofifbehjaaDoor
