/-
  The walk of the law DrawMore.
-/
import Derived.Test.YtkkibmofmdkhbabDoorKeepWalk
import Derived.Test.YtkkibmofmdkhbabDoorFilledWalk
import Derived.Test.YtkkibmofmdkhbabDoorDrawTop
namespace Go.Proofs.YtkkibmofmdkhbabDoor
open Go.RowKit

theorem drawL_take (k i : List Int) (n j : Nat) (h : j ≤ n) : (drawL k i n).take j = drawL k i j := by
  unfold drawL; rw [List.take_take, Nat.min_eq_left h]

theorem Sl.cap_ge {w : World} {a : Option Addr} {n c : Nat} {l : List Int} (h : Sl w (.slice a n c) l) : l.length ≤ c := by
  obtain ⟨⟨a', cap', e, hc, _, _⟩, _, _⟩ := h
  simp only [Value.slice.injEq] at e
  obtain ⟨rfl, rfl, rfl⟩ := e
  exact hc

set_option maxHeartbeats 2000000 in
theorem drawMore_walk (v0 v1 v2 : Value) (l0 l1 l2 : List Int) (n m : Int) (w : World) (h0 : Sl w v0 l0) (h1 : Sl w v1 l1) (h2 : Sl w v2 l2) (n1 : -9223372036854775808 ≤ n) (n2 : n ≤ 9223372036854775807) (m1 : -9223372036854775808 ≤ m) (m2 : m ≤ 9223372036854775807) (ht : TabAt w) :
    Calls Tryd.prog 4 #[v0, v1, v2, .int .i64 n, .int .i64 m] w fun e w' => e = .returned (.bool true) ∧ Below w.heap.size w w' := by
  have y0 : ∀ x ∈ l0.take 60, 0 ≤ x ∧ x < 256 := fun x hx => h0.byte x (List.mem_of_mem_take hx)
  have y1 : ∀ x ∈ l1.take 60, 0 ≤ x ∧ x < 256 := fun x hx => h1.byte x (List.mem_of_mem_take hx)
  have y2 : ∀ x ∈ l2.take 60, 0 ≤ x ∧ x < 256 := fun x hx => h2.byte x (List.mem_of_mem_take hx)
  have q0 : (l0.take 60).length ≤ 60 := by rw [List.length_take]; omega
  have q1 : (l1.take 60).length ≤ 60 := by rw [List.length_take]; omega
  have q2 : (l2.take 60).length ≤ 60 := by rw [List.length_take]; omega
  go_enter Tryd.func4, Tryd.ntmps4
  go_wp2_with fail
  refine (picked_any n 513 w n1 n2 (by omega) (by omega)).mono ?_
  rintro e w' ⟨rfl, rfl⟩
  have hp := pick_range n 513 (by omega)
  obtain ⟨k, hk⟩ : ∃ k : Nat, pick n 513 = k := ⟨(pick n 513).toNat, by omega⟩
  rw [hk] at hp ⊢
  clear hk
  go_wp2_with fail
  refine (picked_any m ((k : Int) + 1) w' m1 m2 (by omega) (by omega)).mono ?_
  rintro e w'' ⟨rfl, rfl⟩
  have hp2 := pick_range m ((k : Int) + 1) (by omega)
  obtain ⟨j, hj⟩ : ∃ j : Nat, pick m ((k : Int) + 1) = j := ⟨(pick m ((k : Int) + 1)).toNat, by omega⟩
  rw [hj] at hp2 ⊢
  clear hj
  go_wp2_with fail
  refine (some_any v0 l0 60 w'' (h0.below (Below.refl w''.heap.size w'')) (by omega)).mono ?_
  rintro e wa0 ⟨vwa0, rfl, owa0, cwa0⟩
  have bwa0 : Below w''.heap.size w'' wa0 := (Below.refl w''.heap.size w'').trans (cwa0.mono (Below.refl w''.heap.size w'').size)
  go_wp2_with fail
  refine (some_any v1 l1 60 wa0 (h1.below bwa0) (by omega)).mono ?_
  rintro e wa1 ⟨vwa1, rfl, owa1, cwa1⟩
  have bwa1 : Below w''.heap.size w'' wa1 := bwa0.trans (cwa1.mono bwa0.size)
  go_wp2_with fail
  refine (some_any v2 l2 60 wa1 (h2.below bwa1) (by omega)).mono ?_
  rintro e wa2 ⟨vwa2, rfl, owa2, cwa2⟩
  have bwa2 : Below w''.heap.size w'' wa2 := bwa1.trans (cwa2.mono bwa1.size)
  have swa0 : Sl wa2 vwa0 (l0.take 60) := ((Sl.ofOwns owa0 (by omega) y0).below cwa1).below cwa2
  have swa1 : Sl wa2 vwa1 (l1.take 60) := (Sl.ofOwns owa1 (by omega) y1).below cwa2
  have swa2 : Sl wa2 vwa2 (l2.take 60) := Sl.ofOwns owa2 (by omega) y2
  clear owa0 owa1 owa2
  go_wp2_with fail
  refine (Draw_ok _ _ _ _ _ _ k wa2 swa0 swa1 swa2 (by omega) (by omega) (by omega) (by omega) (ht.below bwa2)).mono ?_
  rintro e x1 ⟨va, rfl, oa, ca⟩
  have bx1 : Below w''.heap.size w'' x1 := bwa2.trans (ca.mono bwa2.size)
  have la := drawL_length (macL (l1.take 60) (l0.take 60)) (l2.take 60) k (by omega)
  have ya := drawL_byte (macL (l1.take 60) (l0.take 60)) (l2.take 60) k
  have sa : Sl x1 va _ := Sl.ofOwns oa (by omega) ya
  go_wp2_with fail
  refine (some_any v0 l0 60 x1 (h0.below bx1) (by omega)).mono ?_
  rintro e wb0 ⟨vwb0, rfl, owb0, cwb0⟩
  have bwb0 : Below w''.heap.size w'' wb0 := bx1.trans (cwb0.mono bx1.size)
  go_wp2_with fail
  refine (some_any v1 l1 60 wb0 (h1.below bwb0) (by omega)).mono ?_
  rintro e wb1 ⟨vwb1, rfl, owb1, cwb1⟩
  have bwb1 : Below w''.heap.size w'' wb1 := bwb0.trans (cwb1.mono bwb0.size)
  go_wp2_with fail
  refine (some_any v2 l2 60 wb1 (h2.below bwb1) (by omega)).mono ?_
  rintro e wb2 ⟨vwb2, rfl, owb2, cwb2⟩
  have bwb2 : Below w''.heap.size w'' wb2 := bwb1.trans (cwb2.mono bwb1.size)
  have swb0 : Sl wb2 vwb0 (l0.take 60) := ((Sl.ofOwns owb0 (by omega) y0).below cwb1).below cwb2
  have swb1 : Sl wb2 vwb1 (l1.take 60) := (Sl.ofOwns owb1 (by omega) y1).below cwb2
  have swb2 : Sl wb2 vwb2 (l2.take 60) := Sl.ofOwns owb2 (by omega) y2
  clear owb0 owb1 owb2
  go_wp2_with fail
  refine (Draw_ok _ _ _ _ _ _ j wb2 swb0 swb1 swb2 (by omega) (by omega) (by omega) (by omega) (ht.below bwb2)).mono ?_
  rintro e x2 ⟨vb, rfl, ob, cb⟩
  have bx2 : Below w''.heap.size w'' x2 := bwb2.trans (cb.mono bwb2.size)
  have lb := drawL_length (macL (l1.take 60) (l0.take 60)) (l2.take 60) j (by omega)
  have yb := drawL_byte (macL (l1.take 60) (l0.take 60)) (l2.take 60) j
  have sb : Sl x2 vb _ := Sl.ofOwns ob (by omega) yb
  have sa2 := (((sa.below cwb0).below cwb1).below cwb2).below cb
  go_wp2_with fail
  refine (some_any v0 l0 60 x2 (h0.below bx2) (by omega)).mono ?_
  rintro e wc0 ⟨vwc0, rfl, owc0, cwc0⟩
  have bwc0 : Below w''.heap.size w'' wc0 := bx2.trans (cwc0.mono bx2.size)
  go_wp2_with fail
  refine (some_any v1 l1 60 wc0 (h1.below bwc0) (by omega)).mono ?_
  rintro e wc1 ⟨vwc1, rfl, owc1, cwc1⟩
  have bwc1 : Below w''.heap.size w'' wc1 := bwc0.trans (cwc1.mono bwc0.size)
  go_wp2_with fail
  refine (some_any v2 l2 60 wc1 (h2.below bwc1) (by omega)).mono ?_
  rintro e wc2 ⟨vwc2, rfl, owc2, cwc2⟩
  have bwc2 : Below w''.heap.size w'' wc2 := bwc1.trans (cwc2.mono bwc1.size)
  have swc0 : Sl wc2 vwc0 (l0.take 60) := ((Sl.ofOwns owc0 (by omega) y0).below cwc1).below cwc2
  have swc1 : Sl wc2 vwc1 (l1.take 60) := (Sl.ofOwns owc1 (by omega) y1).below cwc2
  have swc2 : Sl wc2 vwc2 (l2.take 60) := Sl.ofOwns owc2 (by omega) y2
  clear owc0 owc1 owc2
  go_wp2_with fail
  obtain ⟨⟨a0, k0, e0, _, _, _⟩, g0, _⟩ := swc0
  obtain ⟨⟨a1, k1, e1, _, _, _⟩, g1, _⟩ := swc1
  obtain ⟨⟨a2, k2, e2, _, _, _⟩, g2, _⟩ := swc2
  subst e0 e1 e2
  refine (Draw_no a0 a1 a2 _ _ _ k0 k1 k2 513 wc2 g0 g1 g2 (by omega) (by omega) (by omega)).mono ?_
  rintro e x3 ⟨rfl, rfl⟩
  have ta := ((sa2.below cwc0).below cwc1).below cwc2
  have tb := ((sb.below cwc0).below cwc1).below cwc2
  have hd := drawL_take (macL (l1.take 60) (l0.take 60)) (l2.take 60) k j (by omega)
  obtain ⟨pa, qa, hva⟩ := owns_any oa
  obtain ⟨pb, qb, hvb⟩ := owns_any ob
  rw [la] at hva
  rw [lb] at hvb
  subst hva hvb
  have hqa := Sl.cap_ge ta
  rw [la] at hqa
  have tt := ta.take j (by omega)
  rw [hd] at tt
  generalize drawL (macL (l1.take 60) (l0.take 60)) (l2.take 60) j = B at tt tb
  clear sa2 sb sa oa ob hd la lb ya yb ta
  go_wp2_with fail
  refine (keep_same _ _ B B x3 tt tb).mono ?_
  rintro e x4 ⟨rfl, rfl⟩
  go_wp2
  go_ret
  exact ⟨rfl, bwc2⟩
end Go.Proofs.YtkkibmofmdkhbabDoor
