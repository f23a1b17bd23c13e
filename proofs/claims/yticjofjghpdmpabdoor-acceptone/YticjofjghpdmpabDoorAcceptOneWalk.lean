/-
  The walk of the law AcceptOne.
-/
import Derived.Test.YticjofjghpdmpabDoorKVoted
import Derived.Test.YticjofjghpdmpabDoorPaxCheck
import Derived.Test.YticjofjghpdmpabDoorKEq
namespace Go.Proofs.YticjofjghpdmpabDoor
open Go.RowKit
set_option linter.unusedVariables false

/-- how many votes are for other slots -/
def cntN (l : List Vt) (s : Int) : Nat := l.countP fun u => decide (u.slot ≠ s)
theorem cntN_snoc (l : List Vt) (i : Nat) (u : Vt) (s : Int) (h : l[i]? = some u) : cntN (l.take (i + 1)) s = cntN (l.take i) s + (if u.slot = s then 0 else 1) := by
  rw [take_snocV l i u h]
  unfold cntN
  rw [List.countP_append]
  by_cases e : u.slot = s <;> simp [e]
theorem cntN_ins (l : List Vt) (v : Vt) : cntN (insV l v) v.slot = cntN l v.slot := by
  induction l with
  | nil => simp [insV, cntN]
  | cons u us ih =>
    unfold cntN at ih ⊢
    rw [insV]
    split
    · rw [List.countP_cons, List.countP_cons, ih]
    · split
      · rename_i h1 h2
        rw [List.countP_cons, List.countP_cons]
        simp [h2]
      · rw [List.countP_cons]
        simp
theorem cntN_le (l : List Vt) (s : Int) : cntN l s ≤ l.length := List.countP_le_length
/-- is a slot among them? -/
def anyS (l : List Vt) (s : Int) : Bool := l.any fun u => decide (u.slot = s)
theorem anyS_snoc (l : List Vt) (i : Nat) (u : Vt) (s : Int) (h : l[i]? = some u) : anyS (l.take (i + 1)) s = (anyS (l.take i) s || decide (u.slot = s)) := by
  rw [take_snocV l i u h]
  simp [anyS]
set_option maxHeartbeats 4000000 in
set_option maxRecDepth 100000 in
theorem acceptOne_walk (x : Value) (l : List Cmd) (sl sq : Int) (w : World) (h : Sp w x l) (hi : ∀ c ∈ l, PlyI c) (r1 : -9223372036854775808 ≤ sl) (r2 : sl ≤ 9223372036854775807) (r3 : -9223372036854775808 ≤ sq) (r4 : sq ≤ 9223372036854775807) (ht : NTab w) :
    Calls Tryd.prog 4 #[x, .int .i64 sl, .int .i64 sq] w fun e w' => e = .returned (.bool true) ∧ Below w.heap.size w w' := by
  have bb := Below.refl w.heap.size w
  have isl : I64 sl := ⟨r1, r2⟩
  have isq : I64 sq := ⟨r3, r4⟩
  have p6 := pick_range sl 6 (by omega)
  have p100 := pick_range sq 100 (by omega)
  clear r1 r2 r3 r4
  go_enter Tryd.func4, Tryd.ntmps4
  go_wp2_with fail
  refine (voted_any x l w h hi ht).mono ?_
  rintro e w1 ⟨⟨⟨ar, an⟩, L⟩, y, rfl, oy, hma, hpa, b1⟩
  have HMA : Hid (AccMay ⟨⟨ar, an⟩, L⟩) := hma
  have hL40 : L.length ≤ 40 := hma.short
  clear hma
  obtain ⟨ay, cy, rfl⟩ := ownsV_shape oy
  obtain ⟨M, hM⟩ : ∃ M, L.length = M := ⟨_, rfl⟩
  have HM : Hid (L.length = M) := hM
  simp only at oy hpa
  rw [hM] at oy ⊢
  clear hM
  have sy : Sv w1 (.slice ay M cy) L := Sv.ofOwns oy (by omega)
  simp only [acA]
  have d1 := bb.trans (b1.mono bb.size)
  have tt1 := ht.below b1
  clear b1 oy
  have bN2 : Below w1.heap.size w1 (w1.alloc (.cells #[.int .i64 0, .int .i64 0, .slice none 0 0] 27)) := (Below.refl _ _).alloc (Nat.le_refl _) _
  have rN2 := heap_alloc_new w1 (.cells #[.int .i64 0, .int .i64 0, .slice none 0 0] 27)
  have on2 : (#[.int .i64 ar, .int .i64 an, .slice ay M cy] : Array Value).all (·.oneCell') = true := by simp [Value.oneCell']
  generalize hN2 : w1.alloc (.cells #[.int .i64 0, .int .i64 0, .slice none 0 0] 27) = N2 at bN2 rN2
  go_upto_region 2 with ((with_reducible (refine pxLook ?_)); (refine wpList_store_row rfl 27 (.tmp 7) (.tmp 23) rfl w1.heap.size #[.int .i64 ar, .int .i64 an, .slice ay M cy] rfl rfl 27 _ rN2 ac3k rfl on2 ?_))
  clear hN2
  have qN2 := setRow_heap N2 w1.heap.size _ (#[.int .i64 ar, .int .i64 an, .slice ay M cy]) 27 _ rN2
  replace bN2 := oBelow_rowP bN2 (Nat.le_refl _) (#[.int .i64 ar, .int .i64 an, .slice ay M cy])
  generalize N2.setRow w1.heap.size (#[.int .i64 ar, .int .i64 an, .slice ay M cy]) = W2 at qN2 bN2 ⊢
  have lN2 : w1.heap.size < W2.heap.size := (Array.getElem?_eq_some_iff.1 qN2).1
  clear rN2
  have d2 := d1.trans (bN2.mono d1.size)
  have tt2 := tt1.below bN2
  have sv2_0 := sy.below bN2
  obtain ⟨gA, hgA⟩ : ∃ g, g = w1.heap.size := ⟨_, rfl⟩
  rw [← hgA] at qN2 lN2 ⊢
  clear hgA bN2
  go_wp2_with fail
  refine (isl.picked 6 _ (by omega) (by omega)).mono ?_
  rintro e wq ⟨rfl, hwq⟩
  replace hwq := hwq.symm
  subst hwq
  go_wp2_with fail
  refine (isq.picked 100 _ (by omega) (by omega)).mono ?_
  rintro e wq ⟨rfl, hwq⟩
  replace hwq := hwq.symm
  subst hwq
  generalize hs : pick sl 6 = s at p6 ⊢
  generalize hq : pick sq 100 = q at p100 ⊢
  clear hs hq
  have bN3 : Below W2.heap.size W2 (W2.alloc (.cells #[.int .i64 0, .int .i64 0, .int .i64 0, .int .i64 0, .int .i64 0, .int .i64 0, .int .i64 0, .int .i64 0] 39)) := (Below.refl _ _).alloc (Nat.le_refl _) _
  have rN3 := heap_alloc_new W2 (.cells #[.int .i64 0, .int .i64 0, .int .i64 0, .int .i64 0, .int .i64 0, .int .i64 0, .int .i64 0, .int .i64 0] 39)
  have on3 : (#[.int .i64 s, .int .i64 20, .int .i64 1, .int .i64 2, .int .i64 0, .int .i64 q, .int .i64 0, .int .i64 0] : Array Value).all (·.oneCell') = true := by simp [Value.oneCell']
  generalize hN3 : W2.alloc (.cells #[.int .i64 0, .int .i64 0, .int .i64 0, .int .i64 0, .int .i64 0, .int .i64 0, .int .i64 0, .int .i64 0] 39) = N3 at bN3 rN3
  go_upto_region 4 with ((with_reducible (refine pxLook ?_)); (refine wpList_store_row rfl 39 (.tmp 10) (.tmp 32) rfl W2.heap.size #[.int .i64 s, .int .i64 20, .int .i64 1, .int .i64 2, .int .i64 0, .int .i64 q, .int .i64 0, .int .i64 0] rfl rfl 39 _ rN3 vt8 rfl on3 ?_))
  clear hN3
  have qN3 := setRow_heap N3 W2.heap.size _ (#[.int .i64 s, .int .i64 20, .int .i64 1, .int .i64 2, .int .i64 0, .int .i64 q, .int .i64 0, .int .i64 0]) 39 _ rN3
  replace bN3 := oBelow_rowP bN3 (Nat.le_refl _) (#[.int .i64 s, .int .i64 20, .int .i64 1, .int .i64 2, .int .i64 0, .int .i64 q, .int .i64 0, .int .i64 0])
  generalize N3.setRow W2.heap.size (#[.int .i64 s, .int .i64 20, .int .i64 1, .int .i64 2, .int .i64 0, .int .i64 q, .int .i64 0, .int .i64 0]) = W3 at qN3 bN3 ⊢
  have lN3 : W2.heap.size < W3.heap.size := (Array.getElem?_eq_some_iff.1 qN3).1
  clear rN3
  have d3 := d2.trans (bN3.mono d2.size)
  have tt3 := tt2.below bN3
  have rw3_0 := (bN3.block _ lN2).trans qN2
  have lw3_0 := Nat.lt_of_lt_of_le lN2 bN3.size
  have sv3_0 := sv2_0.below bN3
  clear lN2 qN2
  obtain ⟨gV, hgV⟩ : ∃ g, g = W2.heap.size := ⟨_, rfl⟩
  rw [← hgV] at qN3 lN3 ⊢
  clear hgV bN3
  have hvm : VtMay ⟨s, ⟨20, 1⟩, ⟨2, 0, q, 0, 0⟩⟩ := ⟨by simp only; omega, by simp [BalMay], by show comE 2 0 q 0 0 = 0; exact comE_ok (by omega) (by unfold InC; omega) (by omega)⟩
  have n1 : ¬ Bal.lt ⟨20, 1⟩ ⟨ar, an⟩ := by unfold Bal.lt; simp only; omega
  have HA : Hid (AccMay ⟨⟨20, 1⟩, insV L ⟨s, ⟨20, 1⟩, ⟨2, 0, q, 0, 0⟩⟩⟩) := HMA.out.vote hvm n1
  have HE : Hid (votE ⟨⟨ar, an⟩, L⟩ ⟨s, ⟨20, 1⟩, ⟨2, 0, q, 0, 0⟩⟩ = 0 ∧ accP ⟨⟨ar, an⟩, L⟩ ⟨s, ⟨20, 1⟩, ⟨2, 0, q, 0, 0⟩⟩ = ⟨20, 1⟩ ∧ accL ⟨⟨ar, an⟩, L⟩ ⟨s, ⟨20, 1⟩, ⟨2, 0, q, 0, 0⟩⟩ = insV L ⟨s, ⟨20, 1⟩, ⟨2, 0, q, 0, 0⟩⟩) := by
    rcases vot_split HMA.out hvm with ⟨_, _, _, a4⟩ | ⟨a1, a2, a3, _⟩
    · exact absurd a4 n1
    · exact ⟨a1, a2, a3⟩
  have HMem : Hid (∀ u, u ∈ insV L ⟨s, ⟨20, 1⟩, ⟨2, 0, q, 0, 0⟩⟩ ↔ u = ⟨s, ⟨20, 1⟩, ⟨2, 0, q, 0, 0⟩⟩ ∨ (u ∈ L ∧ u.slot ≠ s)) := fun u => insV_mem HMA.out.2.2
  have HCnt : Hid (cntN (insV L ⟨s, ⟨20, 1⟩, ⟨2, 0, q, 0, 0⟩⟩) s = cntN L s) := cntN_ins L ⟨s, ⟨20, 1⟩, ⟨2, 0, q, 0, 0⟩⟩
  clear hvm n1 hpa
  go_wp2_with ((with_reducible (refine pxLook ?_)); first | (refine wpList_load_row rfl 27 (.tmp 7) rfl gA rfl 27 _ (0, 0) _ rw3_0 Tryd.underlying27 rfl ac3k ?_) | (refine wpList_load_row rfl 39 (.tmp 10) rfl gV rfl 39 _ (0, 0) _ qN3 Tryd.underlying39 rfl vt8 ?_))
  refine (accept_any ⟨ar, an⟩ (.slice ay M cy) L ⟨s, ⟨20, 1⟩, ⟨2, 0, q, 0, 0⟩⟩ W3 sv3_0 tt3).mono ?_
  rintro e w2 ⟨y2, rfl, sx, b2⟩
  rw [HE.out.1, HE.out.2.1]
  rw [HE.out.2.2] at sx
  generalize hX : insV L ⟨s, ⟨20, 1⟩, ⟨2, 0, q, 0, 0⟩⟩ = X at sx HA HMem HCnt
  clear hX HE
  obtain ⟨a3, c3, hs3⟩ := sx.shape
  obtain ⟨K, hK⟩ : ∃ K, X.length = K := ⟨_, rfl⟩
  have HK : Hid (X.length = K) := hK
  have hK40 : X.length ≤ 40 := HA.out.short
  rw [hK] at hs3 hK40
  subst hs3
  clear hK
  simp only [acA]
  have d4 := d3.trans (b2.mono d3.size)
  have tt4 := tt3.below b2
  have rw4_0 := (b2.block _ lw3_0).trans rw3_0
  have lw4_0 := Nat.lt_of_lt_of_le lw3_0 b2.size
  have rw4_1 := (b2.block _ lN3).trans qN3
  have lw4_1 := Nat.lt_of_lt_of_le lN3 b2.size
  have sv4_0 := sv3_0.below b2
  clear lw3_0 lN3 rw3_0 qN3
  clear b2
  have bN5 : Below w2.heap.size w2 (w2.alloc (.cells #[.int .i64 0, .int .i64 0, .slice none 0 0] 27)) := (Below.refl _ _).alloc (Nat.le_refl _) _
  have rN5 := heap_alloc_new w2 (.cells #[.int .i64 0, .int .i64 0, .slice none 0 0] 27)
  have on5 : (#[.int .i64 20, .int .i64 1, .slice a3 K c3] : Array Value).all (·.oneCell') = true := by simp [Value.oneCell']
  generalize hN5 : w2.alloc (.cells #[.int .i64 0, .int .i64 0, .slice none 0 0] 27) = N5 at bN5 rN5
  go_upto_region 5 with ((with_reducible (refine pxLook ?_)); (refine wpList_store_row rfl 27 (.tmp 11) (.tmp 37) rfl w2.heap.size #[.int .i64 20, .int .i64 1, .slice a3 K c3] rfl rfl 27 _ rN5 ac3k rfl on5 ?_))
  clear hN5
  have qN5 := setRow_heap N5 w2.heap.size _ (#[.int .i64 20, .int .i64 1, .slice a3 K c3]) 27 _ rN5
  replace bN5 := oBelow_rowP bN5 (Nat.le_refl _) (#[.int .i64 20, .int .i64 1, .slice a3 K c3])
  generalize N5.setRow w2.heap.size (#[.int .i64 20, .int .i64 1, .slice a3 K c3]) = W5 at qN5 bN5 ⊢
  have lN5 : w2.heap.size < W5.heap.size := (Array.getElem?_eq_some_iff.1 qN5).1
  clear rN5
  have d5 := d4.trans (bN5.mono d4.size)
  have tt5 := tt4.below bN5
  have rw5_0 := (bN5.block _ lw4_0).trans rw4_0
  have lw5_0 := Nat.lt_of_lt_of_le lw4_0 bN5.size
  have rw5_1 := (bN5.block _ lw4_1).trans rw4_1
  have lw5_1 := Nat.lt_of_lt_of_le lw4_1 bN5.size
  have sv5_0 := sv4_0.below bN5
  have sv5_1 := sx.below bN5
  clear lw4_0 lw4_1 rw4_0 rw4_1
  obtain ⟨gC, hgC⟩ : ∃ g, g = w2.heap.size := ⟨_, rfl⟩
  rw [← hgC] at qN5 lN5 ⊢
  clear hgC bN5
  have kc0 : W5.cell? ⟨gC, 0, none⟩ = some (.int .i64 20) := cell_of_row _ _ 0 _ _ _ qN5
  have kc1 : W5.cell? ⟨gC, 1, none⟩ = some (.int .i64 1) := cell_of_row _ _ 1 _ _ _ qN5
  have kc2 : W5.cell? ⟨gC, 2, none⟩ = some (.slice a3 K c3) := cell_of_row _ _ 2 _ _ _ qN5
  go_wp2_with fail
  clear kc0 kc1 kc2
  refine (check_acc ⟨20, 1⟩ (.slice a3 K c3) X W5 sv5_1 tt5).mono ?_
  rintro e W ⟨rfl, bW⟩
  rw [show accE ⟨⟨20, 1⟩, X⟩ = 0 from if_pos HA.out]
  have d6 := d5.trans (bW.mono d5.size)
  have tt6 := tt5.below bW
  have rw6_0 := (bW.block _ lw5_0).trans rw5_0
  have lw6_0 := Nat.lt_of_lt_of_le lw5_0 bW.size
  have rw6_1 := (bW.block _ lw5_1).trans rw5_1
  have lw6_1 := Nat.lt_of_lt_of_le lw5_1 bW.size
  have rw6_2 := (bW.block _ lN5).trans qN5
  have lw6_2 := Nat.lt_of_lt_of_le lN5 bW.size
  have sv6_0 := sv5_0.below bW
  have sv6_1 := sv5_1.below bW
  clear lw5_0 lw5_1 lN5 rw5_0 rw5_1 qN5
  clear bW
  have sL := sv6_0
  have sX := sv6_1
  have dW := d6
  have lA := lw6_0
  have lV := lw6_1
  have lC := lw6_2
  have qA := rw6_0
  have qV := rw6_1
  have qC := rw6_2
  have hL40 : M ≤ 40 := by have := HM.out; omega
  go_wp2_with fail
  go_loopw [13, 14, 15] (fun ov fv iv wr => ∃ i : Nat, i ≤ K ∧ iv = .int .i64 (i : Int) ∧ ov = .int .i64 (cntN (X.take i) s : Int) ∧ fv = .bool (anyS (X.take i) s) ∧ Below W.heap.size W wr) (fun _ _ iv _ => ((K : Int) - intOf iv).toNat)
  case atStart => exact ⟨0, by omega, rfl, rfl, rfl, Below.refl _ _⟩
  case round =>
    obtain ⟨i, hiK, rfl, rfl, rfl, hbel⟩ := hrel
    have dr := dW.trans (hbel.mono dW.size)
    have a2 : wr.cell? ⟨gA, 2, none⟩ = some (.slice ay M cy) := cell_of_row _ _ 2 _ _ _ ((hbel.block _ lA).trans qA)
    have x2 : wr.cell? ⟨gC, 2, none⟩ = some (.slice a3 K c3) := cell_of_row _ _ 2 _ _ _ ((hbel.block _ lC).trans qC)
    have hcl := cntN_le (X.take i) s
    rw [List.length_take] at hcl
    by_cases hik : i < K
    · have hii : (i : Int) < (K : Int) := by omega
      obtain ⟨u, hu⟩ : ∃ u, X[i]? = some u := ⟨_, List.getElem?_eq_getElem (by have := HK.out; omega)⟩
      obtain ⟨bx, ox, rfl, ltx, rx⟩ := (sX.below hbel).spot i u hu
      have ix := runIndexV bx ox K c3 i hik
      have HC1 : Hid (cntN (X.take (i + 1)) s = cntN (X.take i) s + (if u.slot = s then 0 else 1)) := cntN_snoc X i u s hu
      have HF1 : Hid (anyS (X.take (i + 1)) s = (anyS (X.take i) s || decide (u.slot = s))) := anyS_snoc X i u s hu
      have hm := (HMem.out u).1 (List.mem_iff_getElem?.2 ⟨i, hu⟩)
      have u0 := rx 0 _ rfl
      have u1 := rx 1 _ rfl
      have u2 := rx 2 _ rfl
      have u3 := rx 3 _ rfl
      have u4 := rx 4 _ rfl
      have u5 := rx 5 _ rfl
      have u6 := rx 6 _ rfl
      have u7 := rx 7 _ rfl
      simp only [Nat.add_zero] at u0
      generalize hN : cntN (X.take i) s = n at hcl HC1
      generalize hFb : anyS (X.take i) s = fb at HF1
      clear hN hFb rx hu
      by_cases hs : u.slot = s
      · have huV : u = (⟨s, ⟨20, 1⟩, ⟨2, 0, q, 0, 0⟩⟩ : Vt) := by
          rcases hm with g | g
          · exact g
          · exact absurd hs g.2
        subst huV
        have v0 : wr.cell? ⟨gV, 0, none⟩ = some (.int .i64 s) := cell_of_row _ _ 0 _ _ _ ((hbel.block _ lV).trans qV)
        have v1 : wr.cell? ⟨gV, 1, none⟩ = some (.int .i64 20) := cell_of_row _ _ 1 _ _ _ ((hbel.block _ lV).trans qV)
        have v2 : wr.cell? ⟨gV, 2, none⟩ = some (.int .i64 1) := cell_of_row _ _ 2 _ _ _ ((hbel.block _ lV).trans qV)
        have v3 : wr.cell? ⟨gV, 3, none⟩ = some (.int .i64 2) := cell_of_row _ _ 3 _ _ _ ((hbel.block _ lV).trans qV)
        have v4 : wr.cell? ⟨gV, 4, none⟩ = some (.int .i64 0) := cell_of_row _ _ 4 _ _ _ ((hbel.block _ lV).trans qV)
        have v5 : wr.cell? ⟨gV, 5, none⟩ = some (.int .i64 q) := cell_of_row _ _ 5 _ _ _ ((hbel.block _ lV).trans qV)
        have v6 : wr.cell? ⟨gV, 6, none⟩ = some (.int .i64 0) := cell_of_row _ _ 6 _ _ _ ((hbel.block _ lV).trans qV)
        have v7 : wr.cell? ⟨gV, 7, none⟩ = some (.int .i64 0) := cell_of_row _ _ 7 _ _ _ ((hbel.block _ lV).trans qV)
        have HC2 : Hid (cntN (X.take (i + 1)) s = n) := by unfold Hid; rw [HC1.out, if_pos rfl]; rfl
        have HF2 : Hid (anyS (X.take (i + 1)) s = true) := by unfold Hid; rw [HF1.out, decide_eq_true rfl, Bool.or_true]
        have heq := eqlV (⟨s, ⟨20, 1⟩, ⟨2, 0, q, 0, 0⟩⟩ : Vt) (⟨s, ⟨20, 1⟩, ⟨2, 0, q, 0, 0⟩⟩ : Vt)
        rw [decide_eq_true rfl] at heq
        simp only [vtA, vtC] at heq
        simp only at u0 u1 u2 u3 u4 u5 u6 u7
        clear HC1 HF1 hm hs
        go_wp2_with fail
        go_quiet (fail)
        have e1 : Below W.heap.size W (wr.drewN nq) := below_drewN hbel nq
        go_wp2
        go_roundw
        case rel => exact ⟨i + 1, by omega, by go_num, by rw [HC2.out], by rw [HF2.out], e1⟩
        case measure => simp [intOf]; omega
      · have hmL : u ∈ L := by
          rcases hm with g | g
          · rw [g] at hs; exact absurd rfl hs
          · exact g.1
        have HC2 : Hid (cntN (X.take (i + 1)) s = n + 1) := by unfold Hid; rw [HC1.out, if_neg hs]
        have HF2 : Hid (anyS (X.take (i + 1)) s = fb) := by unfold Hid; rw [HF1.out, decide_eq_false hs, Bool.or_false]
        have HmL : Hid (u ∈ L) := hmL
        obtain ⟨us, ⟨ur, un⟩, ⟨uk, uc, uq, um, ux⟩⟩ := u
        simp only at u0 u1 u2 u3 u4 u5 u6 u7 hs
        clear HC1 HF1 hm hmL
        have hn40 : n ≤ 40 := by omega
        clear hcl
        obtain ⟨W9, rfl⟩ : ∃ W9, W9 = wr := ⟨_, rfl⟩
        go_wp2_with fail
        go_loopw [16, 17] (fun mv kv ws => ∃ k : Nat, k ≤ M ∧ kv = .int .i64 (k : Int) ∧ mv = .bool (decide ((⟨us, ⟨ur, un⟩, ⟨uk, uc, uq, um, ux⟩⟩ : Vt) ∈ L.take k)) ∧ Below W9.heap.size W9 ws) (fun _ kv _ => ((M : Int) - intOf kv).toNat)
        case atStart => exact ⟨0, by omega, rfl, by simp, Below.refl _ _⟩
        case round =>
          obtain ⟨k, hkM, rfl, rfl, hb2⟩ := hrel
          have a2s : wr.cell? ⟨gA, 2, none⟩ = some (.slice ay M cy) := (hb2.cell (p := ⟨gA, 2, none⟩) (Nat.lt_of_lt_of_le lA hbel.size)).trans a2
          have x2s : wr.cell? ⟨gC, 2, none⟩ = some (.slice (some ⟨bx, ox, none⟩) K c3) := (hb2.cell (p := ⟨gC, 2, none⟩) (Nat.lt_of_lt_of_le lC hbel.size)).trans x2
          by_cases hkm : k < M
          · have hki : (k : Int) < (M : Int) := by omega
            obtain ⟨v, hv⟩ : ∃ v, L[k]? = some v := ⟨_, List.getElem?_eq_getElem (by have := HM.out; omega)⟩
            obtain ⟨bl, ol, rfl, ltl, rl⟩ := ((sL.below hbel).below hb2).spot k v hv
            have il := runIndexV bl ol M cy k hkm
            have HT : Hid (L.take (k + 1) = L.take k ++ [v]) := take_snocV L k v hv
            have l0 := rl 0 _ rfl
            have l1 := rl 1 _ rfl
            have l2 := rl 2 _ rfl
            have l3 := rl 3 _ rfl
            have l4 := rl 4 _ rfl
            have l5 := rl 5 _ rfl
            have l6 := rl 6 _ rfl
            have l7 := rl 7 _ rfl
            simp only [Nat.add_zero] at l0
            have y0 := (hb2.cell (p := ⟨bx, ox + 8 * i, none⟩) ltx).trans u0
            have y1 := (hb2.cell (p := ⟨bx, ox + 8 * i + 1, none⟩) ltx).trans u1
            have y2 := (hb2.cell (p := ⟨bx, ox + 8 * i + 2, none⟩) ltx).trans u2
            have y3 := (hb2.cell (p := ⟨bx, ox + 8 * i + 3, none⟩) ltx).trans u3
            have y4 := (hb2.cell (p := ⟨bx, ox + 8 * i + 4, none⟩) ltx).trans u4
            have y5 := (hb2.cell (p := ⟨bx, ox + 8 * i + 5, none⟩) ltx).trans u5
            have y6 := (hb2.cell (p := ⟨bx, ox + 8 * i + 6, none⟩) ltx).trans u6
            have y7 := (hb2.cell (p := ⟨bx, ox + 8 * i + 7, none⟩) ltx).trans u7
            have hbd : Below W9.heap.size W9 wr := hb2
            clear rl hv a2 x2 u0 u1 u2 u3 u4 u5 u6 u7
            by_cases hin : (⟨us, ⟨ur, un⟩, ⟨uk, uc, uq, um, ux⟩⟩ : Vt) ∈ L.take k
            · rw [decide_eq_true hin]
              have HD : Hid (decide ((⟨us, ⟨ur, un⟩, ⟨uk, uc, uq, um, ux⟩⟩ : Vt) ∈ L.take (k + 1)) = true) := by unfold Hid; rw [HT.out]; exact decide_eq_true (List.mem_append_left _ hin)
              clear hin HT
              go_wp2_with fail
              go_quiet (fail)
              have e1 : Below W9.heap.size W9 (wr.drewN nq) := below_drewN hbd nq
              go_wp2
              go_roundw
              case rel => exact ⟨k + 1, by omega, by go_num, by rw [HD.out], e1⟩
              case measure => simp [intOf]; omega
            · rw [decide_eq_false hin]
              by_cases hvu : v = (⟨us, ⟨ur, un⟩, ⟨uk, uc, uq, um, ux⟩⟩ : Vt)
              · have HD : Hid (decide ((⟨us, ⟨ur, un⟩, ⟨uk, uc, uq, um, ux⟩⟩ : Vt) ∈ L.take (k + 1)) = true) := by unfold Hid; rw [HT.out, hvu]; exact decide_eq_true (List.mem_append_right _ List.mem_cons_self)
                have heq := eqlV (⟨us, ⟨ur, un⟩, ⟨uk, uc, uq, um, ux⟩⟩ : Vt) (⟨us, ⟨ur, un⟩, ⟨uk, uc, uq, um, ux⟩⟩ : Vt)
                rw [decide_eq_true rfl] at heq
                simp only [vtA, vtC] at heq
                subst hvu
                simp only at l0 l1 l2 l3 l4 l5 l6 l7
                clear hin HT
                go_wp2_with fail
                go_quiet (fail)
                have e1 : Below W9.heap.size W9 (wr.drewN nq) := below_drewN hbd nq
                go_wp2
                go_roundw
                case rel => exact ⟨k + 1, by omega, by go_num, by rw [HD.out], e1⟩
                case measure => simp [intOf]; omega
              · have HD : Hid (decide ((⟨us, ⟨ur, un⟩, ⟨uk, uc, uq, um, ux⟩⟩ : Vt) ∈ L.take (k + 1)) = false) := by
                  unfold Hid
                  rw [HT.out]
                  refine decide_eq_false (fun g => ?_)
                  rcases List.mem_append.1 g with g | g
                  · exact hin g
                  · exact hvu (List.mem_singleton.1 g).symm
                have heq := eqlV v (⟨us, ⟨ur, un⟩, ⟨uk, uc, uq, um, ux⟩⟩ : Vt)
                rw [decide_eq_false hvu] at heq
                obtain ⟨ls, ⟨lr, ln⟩, ⟨lk, lc, lq, lm, lx⟩⟩ := v
                simp only [vtA, vtC] at heq
                simp only at l0 l1 l2 l3 l4 l5 l6 l7
                clear hin HT hvu
                go_wp2_with fail
                go_quiet (fail)
                have e1 : Below W9.heap.size W9 (wr.drewN nq) := below_drewN hbd nq
                go_wp2
                go_roundw
                case rel => exact ⟨k + 1, by omega, by go_num, by rw [HD.out], e1⟩
                case measure => simp [intOf]; omega
          · have HD : Hid (decide ((⟨us, ⟨ur, un⟩, ⟨uk, uc, uq, um, ux⟩⟩ : Vt) ∈ L.take k) = true) := by unfold Hid; rw [List.take_of_length_le (by have := HM.out; omega)]; exact decide_eq_true HmL.out
            rw [HD.out]
            have e2 : Below W.heap.size W wr := hbel.trans (hb2.mono hbel.size)
            go_wp2
            go_roundw
            case rel => exact ⟨i + 1, by omega, by go_num, by rw [HC2.out]; go_num, by rw [HF2.out], e2⟩
            case measure => simp [intOf]; omega
    · have HXt : Hid (X.take i = X) := List.take_of_length_le (by have := HK.out; omega)
      rw [HXt.out]
      have HFt : Hid (anyS X s = true) := by
        unfold Hid anyS
        rw [List.any_eq_true]
        exact ⟨(⟨s, ⟨20, 1⟩, ⟨2, 0, q, 0, 0⟩⟩ : Vt), (HMem.out _).2 (.inl rfl), by simp⟩
      rw [HFt.out]
      rw [HXt.out] at hcl
      rw [HCnt.out] at hcl ⊢
      have hcn40 : cntN L s ≤ 40 := by omega
      obtain ⟨n, hn⟩ : ∃ n, cntN L s = n := ⟨_, rfl⟩
      have HNn : Hid (cntN L s = n) := hn
      rw [hn] at hcn40 ⊢
      clear hn hcl
      obtain ⟨W9, rfl⟩ : ∃ W9, W9 = wr := ⟨_, rfl⟩
      go_wp2_with fail
      go_loopw [18, 19] (fun ov kv ws => ∃ k : Nat, k ≤ M ∧ kv = .int .i64 (k : Int) ∧ ov = .int .i64 (cntN (L.take k) s : Int) ∧ Below W9.heap.size W9 ws) (fun _ kv _ => ((M : Int) - intOf kv).toNat)
      case atStart => exact ⟨0, by omega, rfl, rfl, Below.refl _ _⟩
      case round =>
        obtain ⟨k, hkM, rfl, rfl, hb2⟩ := hrel
        have a2s : wr.cell? ⟨gA, 2, none⟩ = some (.slice ay M cy) := (hb2.cell (p := ⟨gA, 2, none⟩) (Nat.lt_of_lt_of_le lA hbel.size)).trans a2
        have hcl := cntN_le (L.take k) s
        rw [List.length_take] at hcl
        by_cases hkm : k < M
        · have hki : (k : Int) < (M : Int) := by omega
          obtain ⟨v, hv⟩ : ∃ v, L[k]? = some v := ⟨_, List.getElem?_eq_getElem (by have := HM.out; omega)⟩
          obtain ⟨bl, ol, rfl, ltl, rl⟩ := ((sL.below hbel).below hb2).spot k v hv
          have il := runIndexV bl ol M cy k hkm
          have l0 := rl 0 _ rfl
          simp only [Nat.add_zero] at l0
          have HC1 : Hid (cntN (L.take (k + 1)) s = cntN (L.take k) s + (if v.slot = s then 0 else 1)) := cntN_snoc L k v s hv
          generalize cntN (L.take k) s = m at HC1 hcl
          have hm40 : m ≤ 40 := by omega
          clear hcl rl hv a2
          by_cases hvs : v.slot = s
          · have HC2 : Hid (cntN (L.take (k + 1)) s = m) := by unfold Hid; rw [HC1.out, if_pos hvs]; rfl
            rw [hvs] at l0
            clear HC1
            go_wp2
            go_roundw
            case rel => exact ⟨k + 1, by omega, by go_num, by rw [HC2.out], hb2⟩
            case measure => simp [intOf]; omega
          · have HC2 : Hid (cntN (L.take (k + 1)) s = m + 1) := by unfold Hid; rw [HC1.out, if_neg hvs]
            generalize v.slot = vv at l0 hvs
            clear HC1
            go_wp2
            go_roundw
            case rel => exact ⟨k + 1, by omega, by go_num, by rw [HC2.out]; go_num, hb2⟩
            case measure => simp [intOf]; omega
        · have HL : Hid (cntN (L.take k) s = n) := by unfold Hid; rw [List.take_of_length_le (by have := HM.out; omega)]; exact HNn.out
          rw [HL.out]
          have d9 := dr.trans (hb2.mono dr.size)
          go_wp2
          go_ret
          exact ⟨by simp, d9⟩
end Go.Proofs.YticjofjghpdmpabDoor
