/-
  The walk of the law LinesBad.
-/
import Derived.Test.YtlcbebiocmmbaaaDoorKlLinesBackWalk
import Derived.Test.YtlcbebiocmmbaaaDoorKl35
import Derived.Test.YtlcbebiocmmbaaaDoorKl4
import Derived.Test.YtlcbebiocmmbaaaDoorKl12
namespace Go.Proofs.YtlcbebiocmmbaaaDoor
open Go.RowKit
set_option linter.unusedVariables false

/-- a line that is none, of eleven -/
def badT (j : Nat) : List Int := badL.getD j []
theorem badT_mem {j : Nat} (h : j < 11) : badT j ∈ badL := by
  have h2 : j < badL.length := h
  rw [badT, List.getD, List.getElem?_eq_getElem h2]
  exact List.getElem_mem h2
theorem badT_facts (j : Nat) (h : j < 11) : (∀ c ∈ badT j, 0 ≤ c ∧ c < 256) ∧ 10 ∉ badT j ∧ (badT j).length ≤ 20 := by
  have all : ∀ i : Fin 11, (∀ c ∈ badT i.val, 0 ≤ c ∧ c < 256) ∧ 10 ∉ badT i.val ∧ (badT i.val).length ≤ 20 := by decide +kernel
  exact all ⟨j, h⟩
theorem rdA_bad {l m : List Lac} {s : List Int} (hv : ∀ x ∈ l, LacV x) (hl : l.length < 100000) (hs : s ∈ badL) (h10 : 10 ∉ s) (ht : (flatA l ++ (s ++ [10]) ++ flatA m).length ≤ 4000000) :
    RdA (flatA l ++ (s ++ [10]) ++ flatA m) l ((s ++ [10]) ++ flatA m) l.length 3 := by
  refine .inr ⟨ht, ⟨by simp, hv, by omega, fun _ _ a r ha e => ?_⟩, .inr (.inr ⟨by simp, hl, rfl, rfl⟩)⟩
  have h1 := (cut10 h10 (lineL_no10 ha.2) (by simpa using e)).1
  exact bad_no hs ha h1.symm
theorem badCell (j : Nat) (h : j < 11) (w : World) (ty : TypeId) (g : Nat) (hg : w.heap[g]? = some (.cells #[.string ⟨#[97, 108, 108, 32, 49, 10]⟩, .string ⟨#[115, 116, 101, 112, 10]⟩, .string ⟨#[115, 116, 101, 112, 32, 53, 10]⟩, .string ⟨#[115, 117, 98, 109, 105, 116, 32, 48, 10]⟩, .string ⟨#[10]⟩, .string ⟨#[115, 117, 98, 109, 105, 116, 32, 48, 32, 48, 10]⟩, .string ⟨#[115, 117, 98, 109, 105, 116, 32, 48, 32, 48, 71, 10]⟩, .string ⟨#[115, 117, 98, 109, 105, 116, 32, 48, 32, 48, 65, 10]⟩, .string ⟨#[99, 97, 114, 114, 121, 32, 48, 49, 10]⟩, .string ⟨#[99, 114, 97, 115, 104, 32, 49, 32, 49, 48, 48, 48, 48, 49, 10]⟩, .string ⟨#[65, 108, 108, 10]⟩] ty)) :
    w.cell? ⟨g, 0 + j, none⟩ = some (.string (strOfNums (badT j ++ [10]))) := by
  rw [Nat.zero_add]
  refine (cell_of_row _ _ j _ _ _ hg).trans ?_
  rcases (by omega : j = 0 ∨ j = 1 ∨ j = 2 ∨ j = 3 ∨ j = 4 ∨ j = 5 ∨ j = 6 ∨ j = 7 ∨ j = 8 ∨ j = 9 ∨ j = 10) with rfl | rfl | rfl | rfl | rfl | rfl | rfl | rfl | rfl | rfl | rfl
  all_goals rfl
set_option maxHeartbeats 4000000 in
set_option maxRecDepth 100000 in
theorem linesBad_walk (x : Value) (F : Nat → Fea) (n : Nat) (at' bad : Int) (w : World) (hx : Sf w x F n) (a1 : -9223372036854775808 ≤ at') (a2 : at' ≤ 9223372036854775807) (b1 : -9223372036854775808 ≤ bad) (b2 : bad ≤ 9223372036854775807) (ht : LAll w) :
    Calls Tryd.prog 8 #[x, .int .i64 at', .int .i64 bad] w fun e w' => e = .returned (.bool true) ∧ Below w.heap.size w w' := by
  obtain ⟨a0, cp, rfl⟩ := hx.shape
  go_enter Tryd.func8, Tryd.ntmps8
  go_wp2_with fail
  refine (feats_cap _ F n 10 (by omega) w hx).mono ?_
  rintro e w1 ⟨v1, rfl, s1, d1, hcap, be1⟩
  have hok := feL_ok F (min n 10)
  have hln := feL_length F (min n 10)
  generalize feL F (min n 10) = l at s1 d1 hok hln
  have hl10 : l.length ≤ 10 := by omega
  obtain ⟨g1, c1, rfl⟩ := s1.shape
  have hc1 := hcap _ _ _ rfl
  have ht1 := ht.below be1
  clear hln hx hcap
  have hw1 : IntKind.i64.wrap ((l.length : Int) + 1) = (l.length : Int) + 1 := by simp only [IntKind.wrap, IntKind.bits, IntKind.signed]; simp; omega
  have hpk := pick_range at' ((l.length : Int) + 1) (by omega)
  obtain ⟨k, hk⟩ : ∃ k : Nat, pick at' ((l.length : Int) + 1) = (k : Int) := ⟨(pick at' ((l.length : Int) + 1)).toNat, by omega⟩
  have hkl : k ≤ l.length := by omega
  have PK : Hid (∀ W, Calls Tryd.prog 19 #[.int .i64 at', .int .i64 ((l.length : Int) + 1)] W fun e w' => e = .returned (.int .i64 (k : Int)) ∧ w' = W) := fun W => by
    have h := picked_any at' ((l.length : Int) + 1) W a1 a2 (by omega) (by omega)
    rwa [hk] at h
  clear hk hpk
  go_wp2_with fail
  refine Calls.mono (PK.out w1) ?_
  rintro e w2 ⟨rfl, rfl⟩
  clear PK hw1
  obtain ⟨gA, cutA, sA⟩ := skUpMax s1 hc1 k hkl
  obtain ⟨gB, cB, cutB, sB⟩ := skFrom s1 hc1 k hkl
  have sA : Sk w2 (.slice gA k k) (laF (l.take k)) k := sA.congr fun i hi => laF_take hi
  have sB : Sk w2 (.slice gB (l.length - k) cB) (laF (l.drop k)) (l.length - k) := sB.congr fun i hi => laF_drop
  have lA : (l.take k).length = k := by rw [List.length_take]; omega
  have lB : (l.drop k).length = l.length - k := List.length_drop
  have vA : Hid (∀ x ∈ l.take k, LacV x) := fun x hx => ⟨hok x (List.mem_of_mem_take hx), d1 x (List.mem_of_mem_take hx)⟩
  have vB : Hid (∀ x ∈ l.drop k, LacV x) := fun x hx => ⟨hok x (List.mem_of_mem_drop hx), d1 x (List.mem_of_mem_drop hx)⟩
  have fA := flatA_len2 (fun x hx => (vA.out x hx).1)
  have fB := flatA_len2 (fun x hx => (vB.out x hx).1)
  rw [lA] at fA
  rw [lB] at fB
  have SA : Hid (∀ W, LAll W → Below w2.heap.size w2 W → Calls Tryd.prog 12 #[.slice gA k k] W fun e w' => e = .returned (.tuple #[.string (strOfNums (flatA (l.take k))), .int .i64 0, .int .i64 0]) ∧ Below W.heap.size W w') := fun W hW bW => by
    have h := show_ok (.slice gA k k) (l.take k) W (by rw [lA]; exact sA.below bW) (fun x hx => (vA.out x hx).1) (fun x hx => (vA.out x hx).2) (by omega) hW.tw hW.tb hW.tp
    exact h
  have SB : Hid (∀ W, LAll W → Below w2.heap.size w2 W → Calls Tryd.prog 12 #[.slice gB (l.length - k) cB] W fun e w' => e = .returned (.tuple #[.string (strOfNums (flatA (l.drop k))), .int .i64 0, .int .i64 0]) ∧ Below W.heap.size W w') := fun W hW bW => by
    have h := show_ok (.slice gB (l.length - k) cB) (l.drop k) W (by rw [lB]; exact sB.below bW) (fun x hx => (vB.out x hx).1) (fun x hx => (vB.out x hx).2) (by omega) hW.tw hW.tb hW.tp
    exact h
  have LA : Hid ((l.take k).length = k) := lA
  clear sA sB s1 hok d1 lA lB
  go_wp2_with fail
  refine Calls.mono (SA.out w2 ht1 (Below.refl _ _)) ?_
  rintro e w3 ⟨rfl, be3⟩
  have ht3 := ht1.below be3
  clear SA cutA
  go_wp2_with fail
  refine Calls.mono (SB.out w3 ht3 be3) ?_
  rintro e w4 ⟨rfl, be4⟩
  have ht4 := ht3.below be4
  have d4 := (be1.trans (be3.mono be1.size)).trans (be4.mono (Nat.le_trans be1.size be3.size))
  clear SB cutB be1 be3 be4 ht1 ht3
  generalize hTA : flatA (l.take k) = tA at *
  generalize hTB : flatA (l.drop k) = tB at *
  have HTT : Hid (flatA (l.take k) = tA ∧ flatA (l.drop k) = tB) := ⟨hTA, hTB⟩
  clear hTA hTB
  have hpk := pick_range bad 11 (by omega)
  obtain ⟨j, hj⟩ : ∃ j : Nat, pick bad 11 = (j : Int) := ⟨(pick bad 11).toNat, by omega⟩
  have hj11 : j < 11 := by omega
  have PK : Hid (∀ W, Calls Tryd.prog 19 #[.int .i64 bad, .int .i64 11] W fun e w' => e = .returned (.int .i64 (j : Int)) ∧ w' = W) := fun W => by
    have h := picked_any bad 11 W b1 b2 (by omega) (by omega)
    rwa [hj] at h
  clear hj hpk
  go_wp2_with fail
  refine Calls.mono (PK.out _) ?_
  rintro e w5 ⟨rfl, hw5⟩
  have cj := badCell j hj11 w5 9 w4.heap.size (by rw [hw5]; exact heap_alloc_new _ _)
  rw [Nat.zero_add] at cj
  have be5 : Below w4.heap.size w4 w5 := by rw [hw5]; exact (Below.refl _ _).alloc (Nat.le_refl _) _
  have ht5 := ht4.below be5
  have d5 := d4.trans (be5.mono d4.size)
  clear hw5 PK be5 ht4 d4
  have ix := runIndexS w4.heap.size 0 11 11 j hj11
  simp only [Nat.zero_add] at ix
  have hbf := badT_facts j hj11
  have q1 : ¬ 9223372036854775807 < (strOfNums tA).size + (strOfNums (badT j ++ [10])).size := by rw [str_size, str_size, List.length_append, List.length_singleton]; omega
  have q2 : ¬ 9223372036854775807 < (strOfNums tA).size + (strOfNums (badT j ++ [10])).size + (strOfNums tB).size := by rw [str_size, str_size, str_size, List.length_append, List.length_singleton]; omega
  have hTL : (tA ++ (badT j ++ [10]) ++ tB).length ≤ 4000000 := by simp only [List.length_append, List.length_singleton]; omega
  have hTB : ∀ x ∈ tA ++ (badT j ++ [10]) ++ tB, 0 ≤ x ∧ x < 256 := by
    intro x hx
    rw [← HTT.out.1, ← HTT.out.2] at hx
    simp only [List.mem_append, List.mem_singleton] at hx
    rcases hx with (hx | hx | rfl) | hx
    · exact flatA_bytes (fun x hx => (vA.out x hx).2) x hx
    · exact hbf.1 x hx
    · omega
    · exact flatA_bytes (fun x hx => (vB.out x hx).2) x hx
  have HRA : Hid (RdA (tA ++ (badT j ++ [10]) ++ tB) (l.take k) ((badT j ++ [10]) ++ tB) (k : Int) 3) := by
    have h := rdA_bad (l := l.take k) (m := l.drop k) vA.out (by rw [LA.out]; omega) (badT_mem hj11) hbf.2.1 (by rw [HTT.out.1, HTT.out.2]; exact hTL)
    rw [LA.out, HTT.out.1, HTT.out.2] at h
    exact h
  have RD : Hid (Calls Tryd.prog 15 #[.string (strOfNums (tA ++ (badT j ++ [10]) ++ tB))] w5 fun e w' => RdGot (tA ++ (badT j ++ [10]) ++ tB) e w' ∧ Below w5.heap.size w5 w') := read_any _ hTB (by omega) w5 ht5.toLTabs
  clear hbf hTB hTL
  go_wp2_with fail
  rw [← str_append, ← str_append]
  refine Calls.mono RD.out ?_
  rintro e w6 ⟨⟨v6, i6, E6, l6, r6, rfl, h6, n6, s6⟩, be6⟩
  obtain ⟨rfl, rfl, _⟩ := h6.unique HRA.out
  obtain rfl := n6 (by decide)
  have d6 := d5.trans (be6.mono d5.size)
  clear h6 n6 s6 be6 RD HRA ix cj q1 q2
  go_wp2
  go_ret
  exact ⟨rfl, d6⟩
end Go.Proofs.YtlcbebiocmmbaaaDoor
