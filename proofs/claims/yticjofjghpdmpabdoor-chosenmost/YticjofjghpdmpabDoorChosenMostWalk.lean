/-
  The walk of the law ChosenMost.
-/
import Derived.Test.YticjofjghpdmpabDoorKVoted
import Derived.Test.YticjofjghpdmpabDoorPaxCn
import Derived.Test.YticjofjghpdmpabDoorKEq
import Derived.Test.YticjofjghpdmpabDoorARows
namespace Go.Proofs.YticjofjghpdmpabDoor
open Go.RowKit
set_option linter.unusedVariables false

/-- so many acceptors, of which the first ones have voted -/
def votV (q : Int) : Vt := ⟨3, ⟨2, 1⟩, ⟨2, 0, q, 0, 0⟩⟩
def accF (q : Int) (k i : Nat) : Acc := if i < k then ⟨⟨2, 1⟩, [votV q]⟩ else ⟨⟨0, 0⟩, []⟩
def accs (q : Int) (k j : Nat) : List Acc := (List.range j).map (accF q k)
theorem accs_succ (q : Int) (k j : Nat) : accs q k (j + 1) = accs q k j ++ [accF q k j] := by unfold accs; rw [List.range_succ, List.map_append]; rfl
theorem accs_length (q : Int) (k j : Nat) : (accs q k j).length = j := by simp [accs]
theorem accs_three (q : Int) (k j : Nat) : choL (accs q k j) 3 = List.replicate (min j k) (votV q) := by
  induction j with
  | zero => simp [choL, accs, ofSlot]
  | succ j ih =>
    unfold choL at ih ⊢
    rw [accs_succ, List.map_append, List.flatten_append, ofSlot_append, ih]
    unfold accF
    by_cases h : j < k
    · rw [if_pos h, show min (j + 1) k = min j k + 1 by omega, List.replicate_succ']
      simp [ofSlot, votV]
    · rw [if_neg h, show min (j + 1) k = min j k by omega]
      simp [ofSlot]
theorem accs_four (q : Int) (k j : Nat) : choL (accs q k j) 4 = [] := by
  induction j with
  | zero => simp [choL, accs, ofSlot]
  | succ j ih =>
    unfold choL at ih ⊢
    rw [accs_succ, List.map_append, List.flatten_append, ofSlot_append, ih]
    unfold accF
    split <;> simp [ofSlot, votV]
theorem numV_rep (n : Nat) (u v : Vt) : numV (List.replicate n u) v = if u = v then n else 0 := by
  unfold numV
  rw [List.countP_replicate]
  simp
theorem accs_may (q : Int) (hq : 0 ≤ q) (hq1 : q < 100) (k j : Nat) : ∀ a ∈ accs q k j, AccMay a := by
  intro a ha
  obtain ⟨i, _, rfl⟩ := List.mem_map.1 ha
  unfold accF
  split
  · refine ⟨.inl (by simp [BalMay]), fun v hv => ?_, ⟨fun u hu => (List.not_mem_nil hu).elim, trivial⟩⟩
    obtain rfl : v = votV q := by simpa using hv
    refine ⟨⟨by simp [votV], by simp [votV, BalMay], ?_⟩, by simp [votV, Bal.lt]⟩
    show comE 2 0 q 0 0 = 0
    exact comE_ok (by omega) (by unfold InC; omega) (by omega)
  · exact ⟨.inr ⟨rfl, rfl⟩, fun v hv => (List.not_mem_nil hv).elim, trivial⟩
theorem accs_cho (q : Int) (hq : 0 ≤ q) (hq1 : q < 100) (k n : Nat) (hk : k ≤ n) (hn : 1 ≤ n) (hn5 : n ≤ 5) :
    (n < 2 * k → choE (accs q k n) 3 = 0 ∧ choC (accs q k n) 3 = ⟨2, 0, q, 0, 0⟩) ∧ (¬ n < 2 * k → choE (accs q k n) 3 = 9) ∧ choE (accs q k n) 4 = 9 := by
  have hl := accs_length q k n
  have hm := accs_may q hq hq1 k n
  have h3 := accs_three q k n
  rw [show min n k = k by omega] at h3
  have r3 : (0 ≤ (3 : Int) ∧ (3 : Int) ≤ 39) ∧ (1 ≤ ((accs q k n).length : Int) ∧ ((accs q k n).length : Int) ≤ 5) := by rw [hl]; omega
  have r4 : (0 ≤ (4 : Int) ∧ (4 : Int) ≤ 39) ∧ (1 ≤ ((accs q k n).length : Int) ∧ ((accs q k n).length : Int) ≤ 5) := by rw [hl]; omega
  refine ⟨fun h => ?_, fun h => ?_, ?_⟩
  · have ho : choO (choL (accs q k n) 3) (accs q k n).length = some (votV q) := by
      rw [hl, h3]
      exact choO_found (by simp; omega) (by rw [numV_rep, if_pos rfl]; exact h)
    obtain ⟨a1, a2⟩ := cho_some r3 hm ho
    exact ⟨a2, a1⟩
  · have ho : choO (choL (accs q k n) 3) (accs q k n).length = none := by
      rw [hl, h3]
      exact choO_not (fun v => by rw [numV_rep]; split <;> omega)
    exact (cho_none r3 hm ho).2
  · have ho : choO (choL (accs q k n) 4) (accs q k n).length = none := by
      rw [accs_four]
      rfl
    exact (cho_none r4 hm ho).2
theorem acc_new (q : Int) (hq : 0 ≤ q) (hq1 : q < 100) : votE ⟨⟨0, 0⟩, []⟩ (votV q) = 0 ∧ accP ⟨⟨0, 0⟩, []⟩ (votV q) = ⟨2, 1⟩ ∧ accL ⟨⟨0, 0⟩, []⟩ (votV q) = [votV q] := by
  have hv : VtMay (votV q) := by
    refine ⟨by simp [votV], by simp [votV, BalMay], ?_⟩
    show comE 2 0 q 0 0 = 0
    exact comE_ok (by omega) (by unfold InC; omega) (by omega)
  have ha : AccMay ⟨⟨0, 0⟩, []⟩ := ⟨.inr ⟨rfl, rfl⟩, fun v hv => (List.not_mem_nil hv).elim, trivial⟩
  rcases vot_split ha hv with ⟨_, _, _, a4⟩ | ⟨a1, a2, a3, _⟩
  · simp [votV, Bal.lt] at a4
  · exact ⟨a1, a2, a3⟩
set_option maxHeartbeats 4000000 in
set_option maxRecDepth 100000 in
theorem chosenMost_walk (nd mn sq : Int) (w : World) (r1 : -9223372036854775808 ≤ nd) (r2 : nd ≤ 9223372036854775807) (r3 : -9223372036854775808 ≤ mn) (r4 : mn ≤ 9223372036854775807) (r5 : -9223372036854775808 ≤ sq) (r6 : sq ≤ 9223372036854775807) (ht : NTab w) :
    Calls Tryd.prog 6 #[.int .i64 nd, .int .i64 mn, .int .i64 sq] w fun e w' => e = .returned (.bool true) ∧ Below w.heap.size w w' := by
  have bb := Below.refl w.heap.size w
  have ind : I64 nd := ⟨r1, r2⟩
  have imn : I64 mn := ⟨r3, r4⟩
  have isq : I64 sq := ⟨r5, r6⟩
  have p5 := pick_range nd 5 (by omega)
  have p100 := pick_range sq 100 (by omega)
  clear r1 r2 r3 r4 r5 r6
  go_enter Tryd.func6, Tryd.ntmps6
  go_wp2_with fail
  refine (ind.picked 5 _ (by omega) (by omega)).mono ?_
  rintro e wq ⟨rfl, hwq⟩
  replace hwq := hwq.symm
  subst hwq
  obtain ⟨n, hn⟩ : ∃ n : Nat, 1 + pick nd 5 = (n : Int) := ⟨(1 + pick nd 5).toNat, by omega⟩
  have hn1 : 1 ≤ n := by omega
  have hn5 : n ≤ 5 := by omega
  have pk := pick_range mn ((n : Int) + 1) (by omega)
  have HN : Hid (1 + pick nd 5 = (n : Int)) := hn
  generalize pick nd 5 = P5 at hn HN p5 ⊢
  obtain rfl : P5 = (n : Int) - 1 := by omega
  clear hn HN p5
  go_wp2_with fail
  rw [show (1 : Int) + ((n : Int) - 1) = (n : Int) by omega]
  refine (imn.picked ((n : Int) + 1) _ (by omega) (by omega)).mono ?_
  rintro e wq ⟨rfl, hwq⟩
  replace hwq := hwq.symm
  subst hwq
  obtain ⟨k, hk⟩ : ∃ k : Nat, pick mn ((n : Int) + 1) = (k : Int) := ⟨(pick mn ((n : Int) + 1)).toNat, by omega⟩
  rw [hk] at pk ⊢
  have hkn : k ≤ n := by omega
  clear pk hk
  go_wp2_with fail
  refine (isq.picked 100 _ (by omega) (by omega)).mono ?_
  rintro e wq ⟨rfl, hwq⟩
  replace hwq := hwq.symm
  subst hwq
  generalize hq : pick sq 100 = q at p100 ⊢
  clear hq
  have bN1 : Below w.heap.size w (w.alloc (.cells #[.int .i64 0, .int .i64 0, .int .i64 0, .int .i64 0, .int .i64 0, .int .i64 0, .int .i64 0, .int .i64 0] 39)) := (Below.refl _ _).alloc (Nat.le_refl _) _
  have rN1 := heap_alloc_new w (.cells #[.int .i64 0, .int .i64 0, .int .i64 0, .int .i64 0, .int .i64 0, .int .i64 0, .int .i64 0, .int .i64 0] 39)
  have on1 : (#[.int .i64 3, .int .i64 2, .int .i64 1, .int .i64 2, .int .i64 0, .int .i64 q, .int .i64 0, .int .i64 0] : Array Value).all (·.oneCell') = true := by simp [Value.oneCell']
  generalize hN1 : w.alloc (.cells #[.int .i64 0, .int .i64 0, .int .i64 0, .int .i64 0, .int .i64 0, .int .i64 0, .int .i64 0, .int .i64 0] 39) = N1 at bN1 rN1
  go_upto_region 4 with ((with_reducible (refine pxLook ?_)); (refine wpList_store_row rfl 39 (.tmp 9) (.tmp 30) rfl w.heap.size #[.int .i64 3, .int .i64 2, .int .i64 1, .int .i64 2, .int .i64 0, .int .i64 q, .int .i64 0, .int .i64 0] rfl rfl 39 _ rN1 vt8 rfl on1 ?_))
  clear hN1
  have qN1 := setRow_heap N1 w.heap.size _ (#[.int .i64 3, .int .i64 2, .int .i64 1, .int .i64 2, .int .i64 0, .int .i64 q, .int .i64 0, .int .i64 0]) 39 _ rN1
  replace bN1 := oBelow_rowP bN1 (Nat.le_refl _) (#[.int .i64 3, .int .i64 2, .int .i64 1, .int .i64 2, .int .i64 0, .int .i64 q, .int .i64 0, .int .i64 0])
  generalize N1.setRow w.heap.size (#[.int .i64 3, .int .i64 2, .int .i64 1, .int .i64 2, .int .i64 0, .int .i64 q, .int .i64 0, .int .i64 0]) = W1 at qN1 bN1 ⊢
  have lN1 : w.heap.size < W1.heap.size := (Array.getElem?_eq_some_iff.1 qN1).1
  clear rN1
  have d1 := bb.trans (bN1.mono bb.size)
  have tt1 := ht.below bN1
  obtain ⟨gV, hgV⟩ : ∃ g, g = w.heap.size := ⟨_, rfl⟩
  rw [← hgV] at qN1 lN1 ⊢
  clear hgV bN1
  have lV := lN1
  have qV := qN1
  have tW := tt1
  have dW := d1
  obtain ⟨W, hWW⟩ : ∃ W, W = W1 := ⟨_, rfl⟩
  subst hWW
  have HCH := accs_cho q p100.1 p100.2 k n hkn hn1 hn5
  have HNW := acc_new q p100.1 p100.2
  have HC : Hid (_ ∧ _) := HCH
  have HW : Hid (_ ∧ _) := HNW
  clear HCH HNW
  go_wp2_with fail
  go_loopw [10, 11] (fun lv iv wr => ∃ (j : Nat) (us : List Value), j ≤ n ∧ iv = .int .i64 (j : Int) ∧ wr.ownsRow W.heap.size 27 3 lv j us ∧ Ra wr us (accs q k j) ∧ Below W.heap.size W wr) (fun _ iv _ => ((n : Int) - intOf iv).toNat)
  case atStart => exact ⟨0, [], by omega, rfl, World.ownsRow_nil _ _ _ _, ⟨rfl, fun i A h1 => by simp [accs] at h1⟩, Below.refl _ _⟩
  case round =>
    obtain ⟨j, us, hj, rfl, hown, hra, hbel⟩ := hrel
    have HO : Hid (wr.ownsRow W.heap.size 27 3 u10 j us) := hown
    have HR : Hid (Ra wr us (accs q k j)) := hra
    have hlt := hown.lt
    have hz := hbel.size
    have dr := dW.trans (hbel.mono dW.size)
    clear hown hra
    by_cases hjn : j < n
    · have hji : (j : Int) < (n : Int) := by omega
      have bN : Below wr.heap.size wr (wr.alloc (.cells #[.int .i64 0, .int .i64 0, .slice none 0 0] 27)) := (Below.refl _ _).alloc (Nat.le_refl _) _
      have rN := heap_alloc_new wr (.cells #[.int .i64 0, .int .i64 0, .slice none 0 0] 27)
      have on3 : (#[.int .i64 0, .int .i64 0, .slice none 0 0] : Array Value).all (·.oneCell') = true := by simp [Value.oneCell']
      generalize hWN : wr.alloc (.cells #[.int .i64 0, .int .i64 0, .slice none 0 0] 27) = WN at bN rN
      go_upto_region 9 with ((with_reducible (refine pxLook ?_)); (refine wpList_store_row rfl 27 (.tmp 12) (.tmp 36) rfl wr.heap.size (#[.int .i64 0, .int .i64 0, .slice none 0 0]) rfl rfl 27 _ rN ac3k rfl on3 ?_))
      clear hWN
      have qA := setRow_heap WN wr.heap.size _ (#[.int .i64 0, .int .i64 0, .slice none 0 0]) 27 _ rN
      replace bN := oBelow_rowP bN (Nat.le_refl _) (#[.int .i64 0, .int .i64 0, .slice none 0 0])
      generalize WN.setRow wr.heap.size (#[.int .i64 0, .int .i64 0, .slice none 0 0]) = W1 at qA bN ⊢
      have e1 := hbel.trans (bN.mono hbel.size)
      have HO1 : Hid (W1.ownsRow W.heap.size 27 3 u10 j us) := ownsV_keep HO.out (fun k hk => bN.block k (hlt k hk).2)
      have HR1 : Hid (Ra W1 us (accs q k j)) := HR.out.below bN
      have lA : wr.heap.size < W1.heap.size := (Array.getElem?_eq_some_iff.1 qA).1
      have hlt1 := HO1.out.lt
      have hsep : ∀ x, u10.ownBlock = some x → x ≠ wr.heap.size := fun x hx => by have := (hlt x hx).2; omega
      generalize wr.heap.size = gA at qA lA hsep hz ⊢
      clear rN bN HO HR hlt
      by_cases hjk : j < k
      · have hjki : (j : Int) < (k : Int) := by omega
        have qV1 := (e1.block gV lV).trans qV
        go_wp2_with ((with_reducible (refine pxLook ?_)); first | (refine wpList_load_row rfl 27 (.tmp 12) rfl gA rfl 27 _ (0, 0) _ qA Tryd.underlying27 rfl ac3k ?_) | (refine wpList_load_row rfl 39 (.tmp 9) rfl gV rfl 39 _ (0, 0) _ qV1 Tryd.underlying39 rfl vt8 ?_))
        refine (accept_own ⟨0, 0⟩ (.slice none 0 0) [] (votV q) W1 (Sv.nil _) (tW.below e1)).mono ?_
        rintro e w2 ⟨y2, rfl, o2, _, b2⟩
        rw [HW.out.1, HW.out.2.1]
        rw [HW.out.2.2] at o2
        obtain ⟨g2, c2, rfl⟩ := ownsV_shape o2
        simp only [acA, List.length_cons, List.length_nil, Nat.zero_add]
        have e2 := e1.trans (b2.mono e1.size)
        have qA2 := (b2.block gA lA).trans qA
        have HO2 : Hid (w2.ownsRow W.heap.size 27 3 u10 j us) := ownsV_keep HO1.out (fun k hk => b2.block k (hlt1 k hk).2)
        have HR2 : Hid (Ra w2 us (accs q k j)) := HR1.out.below b2
        have z2 := b2.size
        have bN : Below w2.heap.size w2 (w2.alloc (.cells #[.int .i64 0, .int .i64 0, .slice none 0 0] 27)) := (Below.refl _ _).alloc (Nat.le_refl _) _
        have rN := heap_alloc_new w2 (.cells #[.int .i64 0, .int .i64 0, .slice none 0 0] 27)
        have on : (#[.int .i64 2, .int .i64 1, .slice g2 1 c2] : Array Value).all (·.oneCell') = true := by simp [Value.oneCell']
        generalize hWN : w2.alloc (.cells #[.int .i64 0, .int .i64 0, .slice none 0 0] 27) = WN2 at bN rN
        go_upto_region 11 with ((with_reducible (refine pxLook ?_)); (refine wpList_store_row rfl 27 (.tmp 13) (.tmp 44) rfl w2.heap.size (#[.int .i64 2, .int .i64 1, .slice g2 1 c2]) rfl rfl 27 _ rN ac3k rfl on ?_))
        clear hWN
        have q13 := setRow_heap WN2 w2.heap.size _ (#[.int .i64 2, .int .i64 1, .slice g2 1 c2]) 27 _ rN
        replace bN := oBelow_rowP bN (Nat.le_refl _) (#[.int .i64 2, .int .i64 1, .slice g2 1 c2])
        generalize WN2.setRow w2.heap.size (#[.int .i64 2, .int .i64 1, .slice g2 1 c2]) = W3 at q13 bN ⊢
        have e3 := e2.trans (bN.mono e2.size)
        have qA3 := (bN.block gA (by omega)).trans qA2
        have HO3 : Hid (W3.ownsRow W.heap.size 27 3 u10 j us) := ownsV_keep HO2.out (fun k hk => bN.block k (HO2.out.lt k hk).2)
        have HR3 : Hid (Ra W3 us (accs q k j)) := HR2.out.below bN
        have o3 : Hid (W3.ownsRow W1.heap.size 39 8 (.slice g2 1 c2) 1 (vtL [votV q])) := ownsV_keep o2 (fun k hk => bN.block k (o2.lt k hk).2)
        have lA3 : gA < W3.heap.size := by have := bN.size; omega
        generalize w2.heap.size = g13 at q13 ⊢
        clear rN bN HO1 HR1 HO2 HR2 o2 b2 qA qA2 qV1 hlt1
        obtain ⟨W4, hW4⟩ : ∃ W4, W3.setRow gA #[.int .i64 2, .int .i64 1, .slice g2 1 c2] = W4 := ⟨_, rfl⟩
        have e4 : Below W.heap.size W W4 := by rw [← hW4]; exact oBelow_rowP e3 (by omega) _
        have qA4 : W4.heap[gA]? = some (.cells #[.int .i64 2, .int .i64 1, .slice g2 1 c2] 27 (0, 0)) := by rw [← hW4]; exact setRow_heap _ _ _ _ _ _ qA3
        have HO4 : Hid (W4.ownsRow W.heap.size 27 3 u10 j us) := by unfold Hid; rw [← hW4]; exact ownsV_keep HO3.out (fun k hk => setRow_other _ _ _ _ (hsep k hk))
        have o4 : Ov W4 (.slice g2 1 c2) [votV q] := by
          rw [← hW4]
          exact Ov.of (ownsV_keep o3.out (fun k hk => setRow_other _ _ _ _ (by have := (o3.out.lt k hk).1; omega)))
        have HR4 : Hid (Ra W4 us (accs q k j)) := by
          refine ⟨HR3.out.1, fun i A hi => ?_⟩
          obtain ⟨y, a1, a2, a3, a4, a5⟩ := HR3.out.2 i A hi
          refine ⟨y, a1, a2, a3, ?_, a5⟩
          rw [← hW4]
          exact a4.otherRow qA3 (by decide) _
        have HA : Hid (accs q k (j + 1) = accs q k j ++ [⟨⟨2, 1⟩, [votV q]⟩]) := by unfold Hid; rw [accs_succ, accF, if_pos hjk]
        have HR5 : Hid (Ra W4 (us ++ [.int .i64 2, .int .i64 1, .slice g2 1 c2]) (accs q k (j + 1))) := by unfold Hid; rw [HA.out]; exact Ra.snoc (A := ⟨⟨2, 1⟩, [votV q]⟩) HR4.out o4 (by simp)
        have z4 := e4.size
        have hlt4 := HO4.out.lt
        clear HO3 HR3 o3 HR4 HA o4
        go_wp2_with ((with_reducible (refine pxLook ?_)); first | (refine wpList_load_row rfl 27 (.tmp 13) rfl g13 rfl 27 _ (0, 0) _ q13 Tryd.underlying27 rfl ac3k ?_) | (refine wpList_store_row rfl 27 (.tmp 12) (.tmp 48) rfl gA (#[.int .i64 2, .int .i64 1, .slice g2 1 c2]) rfl rfl 27 _ qA3 ac3k rfl on ?_; rw [hW4]) | (refine wpList_load_row rfl 27 (.tmp 12) rfl gA rfl 27 _ (0, 0) _ qA4 Tryd.underlying27 rfl ac3k ?_) | (at_builtin; refine wpList_append_one _ rfl _ _ 47 rfl W.heap.size 27 3 40 _ Tryd.underlying47 infoAc rfl (by omega) u10 j us W4.heap.size [.int .i64 2, .int .i64 1, .slice g2 1 c2] rfl rfl (HO4.out.alloc _) rfl (one_range (heap_alloc_new _ _)) (by intro u hu; simp only [List.mem_cons, List.not_mem_nil, or_false] at hu; rcases hu with rfl | rfl | rfl <;> rfl) (by omega) (by omega) (by simp; omega) ?_))
        intro v5 w5 o5 g5
        have e5 : Below W.heap.size W w5 := (e4.alloc (by omega) _).grown g5 (by simp; omega) (fun k hk => (hlt4 k hk).1)
        have HR6 : Hid (Ra w5 (us ++ [.int .i64 2, .int .i64 1, .slice g2 1 c2]) (accs q k (j + 1))) := (HR5.out.below ((Below.refl _ _).alloc (Nat.le_refl _) _)).grown (HO4.out.alloc _) (by decide) g5
        have HO6 : Hid (w5.ownsRow W.heap.size 27 3 v5 (j + 1) (us ++ [.int .i64 2, .int .i64 1, .slice g2 1 c2])) := o5
        clear o5 g5 HO4 HR5 hlt4 hW4
        go_wp2
        go_roundw
        case rel => exact ⟨j + 1, _, by omega, by go_num, HO6.out, HR6.out, e5⟩
        case measure => simp [intOf]; omega
      · have hjki : ¬ (j : Int) < (k : Int) := by omega
        have HA : Hid (accs q k (j + 1) = accs q k j ++ [⟨⟨0, 0⟩, []⟩]) := by unfold Hid; rw [accs_succ, accF, if_neg hjk]
        have HR5 : Hid (Ra W1 (us ++ [.int .i64 0, .int .i64 0, .slice none 0 0]) (accs q k (j + 1))) := by unfold Hid; rw [HA.out]; exact Ra.snoc (A := ⟨⟨0, 0⟩, []⟩) HR1.out (World.ownsRow_nil _ _ _ _) (by simp)
        have z4 := e1.size
        clear HA
        go_wp2_with ((with_reducible (refine pxLook ?_)); first | (refine wpList_load_row rfl 27 (.tmp 12) rfl gA rfl 27 _ (0, 0) _ qA Tryd.underlying27 rfl ac3k ?_) | (at_builtin; refine wpList_append_one _ rfl _ _ 47 rfl W.heap.size 27 3 40 _ Tryd.underlying47 infoAc rfl (by omega) u10 j us W1.heap.size [.int .i64 0, .int .i64 0, .slice none 0 0] rfl rfl (HO1.out.alloc _) rfl (one_range (heap_alloc_new _ _)) (by intro u hu; simp only [List.mem_cons, List.not_mem_nil, or_false] at hu; rcases hu with rfl | rfl | rfl <;> rfl) (by omega) (by omega) (by simp; omega) ?_))
        intro v5 w5 o5 g5
        have e5 : Below W.heap.size W w5 := (e1.alloc (by omega) _).grown g5 (by simp; omega) (fun k hk => (hlt1 k hk).1)
        have HR6 : Hid (Ra w5 (us ++ [.int .i64 0, .int .i64 0, .slice none 0 0]) (accs q k (j + 1))) := (HR5.out.below ((Below.refl _ _).alloc (Nat.le_refl _) _)).grown (HO1.out.alloc _) (by decide) g5
        have HO6 : Hid (w5.ownsRow W.heap.size 27 3 v5 (j + 1) (us ++ [.int .i64 0, .int .i64 0, .slice none 0 0])) := o5
        clear o5 g5 HO1 HR5 hlt1 HR1
        go_wp2
        go_roundw
        case rel => exact ⟨j + 1, _, by omega, by go_num, HO6.out, HR6.out, e5⟩
        case measure => simp [intOf]; omega
    · obtain rfl : j = n := by omega
      have sac : Sac wr u10 (accs q k j) := Sac.ofRa (by rw [accs_length]; exact HO.out) HR.out (by rw [accs_length]; omega)
      have tr := tW.below hbel
      have qVr := (hbel.block gV lV).trans qV
      have lVr : gV < wr.heap.size := Nat.lt_of_lt_of_le lV hbel.size
      clear HO HR hlt
      go_wp2_with fail
      refine (chosen_any u10 (accs q k j) 3 wr sac tr).mono ?_
      rintro e w2 ⟨rfl, b2⟩
      have d2 := dr.trans (b2.mono dr.size)
      have s2 := sac.below b2
      have t2 := tr.below b2
      have qV2 := (b2.block gV lVr).trans qVr
      have lV2 : gV < w2.heap.size := Nat.lt_of_lt_of_le lVr b2.size
      obtain ⟨C1, hC1⟩ : ∃ C1, choC (accs q k j) 3 = C1 := ⟨_, rfl⟩
      have HC1 : Hid (choC (accs q k j) 3 = C1) := hC1
      rw [hC1]
      clear hC1 b2
      obtain ⟨ck, cc, cs, cn, cv⟩ := C1
      simp only [cmC, cmA]
      have bN : Below w2.heap.size w2 (w2.alloc (.cells #[.int .i64 0, .int .i64 0, .int .i64 0, .int .i64 0, .int .i64 0] 37)) := (Below.refl _ _).alloc (Nat.le_refl _) _
      have rN := heap_alloc_new w2 (.cells #[.int .i64 0, .int .i64 0, .int .i64 0, .int .i64 0, .int .i64 0] 37)
      have on : (#[.int .i64 ck, .int .i64 cc, .int .i64 cs, .int .i64 cn, .int .i64 cv] : Array Value).all (·.oneCell') = true := by simp [Value.oneCell']
      generalize hWN : w2.alloc (.cells #[.int .i64 0, .int .i64 0, .int .i64 0, .int .i64 0, .int .i64 0] 37) = WN at bN rN
      go_upto_region 16 with ((with_reducible (refine pxLook ?_)); (refine wpList_store_row rfl 37 (.tmp 15) (.tmp 56) rfl w2.heap.size (#[.int .i64 ck, .int .i64 cc, .int .i64 cs, .int .i64 cn, .int .i64 cv]) rfl rfl 37 _ rN cm5m rfl on ?_))
      clear hWN
      have q15 := setRow_heap WN w2.heap.size _ (#[.int .i64 ck, .int .i64 cc, .int .i64 cs, .int .i64 cn, .int .i64 cv]) 37 _ rN
      replace bN := oBelow_rowP bN (Nat.le_refl _) (#[.int .i64 ck, .int .i64 cc, .int .i64 cs, .int .i64 cn, .int .i64 cv])
      generalize WN.setRow w2.heap.size (#[.int .i64 ck, .int .i64 cc, .int .i64 cs, .int .i64 cn, .int .i64 cv]) = W3 at q15 bN ⊢
      have d3 := d2.trans (bN.mono d2.size)
      have s3 := s2.below bN
      have t3 := t2.below bN
      have qV3 := (bN.block gV lV2).trans qV2
      have lV3 : gV < W3.heap.size := Nat.lt_of_lt_of_le lV2 bN.size
      have l15 : w2.heap.size < W3.heap.size := (Array.getElem?_eq_some_iff.1 q15).1
      generalize w2.heap.size = g15 at q15 l15 ⊢
      clear rN bN s2 t2 qV2 lV2 sac tr
      go_wp2_with fail
      refine (chosen_any u10 (accs q k j) 4 W3 s3 t3).mono ?_
      rintro e w4 ⟨rfl, b4⟩
      rw [HC.out.2.2]
      have d4 := d3.trans (b4.mono d3.size)
      have qV4 := (b4.block gV lV3).trans qV3
      have q154 := (b4.block g15 l15).trans q15
      have lV4 : gV < w4.heap.size := Nat.lt_of_lt_of_le lV3 b4.size
      have l154 : g15 < w4.heap.size := Nat.lt_of_lt_of_le l15 b4.size
      clear b4 q15 qV3
      generalize choC (accs q k j) 4 = C2
      obtain ⟨dk, dc, ds, dn, dv⟩ := C2
      simp only [cmC, cmA]
      have bN : Below w4.heap.size w4 (w4.alloc (.cells #[.int .i64 0, .int .i64 0, .int .i64 0, .int .i64 0, .int .i64 0] 37)) := (Below.refl _ _).alloc (Nat.le_refl _) _
      have rN := heap_alloc_new w4 (.cells #[.int .i64 0, .int .i64 0, .int .i64 0, .int .i64 0, .int .i64 0] 37)
      have on2 : (#[.int .i64 dk, .int .i64 dc, .int .i64 ds, .int .i64 dn, .int .i64 dv] : Array Value).all (·.oneCell') = true := by simp [Value.oneCell']
      generalize hWN : w4.alloc (.cells #[.int .i64 0, .int .i64 0, .int .i64 0, .int .i64 0, .int .i64 0] 37) = WN4 at bN rN
      go_upto_region 17 with ((with_reducible (refine pxLook ?_)); (refine wpList_store_row rfl 37 (.tmp 17) (.tmp 61) rfl w4.heap.size (#[.int .i64 dk, .int .i64 dc, .int .i64 ds, .int .i64 dn, .int .i64 dv]) rfl rfl 37 _ rN cm5m rfl on2 ?_))
      clear hWN
      replace bN := oBelow_rowP bN (Nat.le_refl _) (#[.int .i64 dk, .int .i64 dc, .int .i64 ds, .int .i64 dn, .int .i64 dv])
      generalize WN4.setRow w4.heap.size (#[.int .i64 dk, .int .i64 dc, .int .i64 ds, .int .i64 dn, .int .i64 dv]) = W5 at bN ⊢
      have d5 := d4.trans (bN.mono d4.size)
      have qV5 := (bN.block gV lV4).trans qV4
      have q155 := (bN.block g15 l154).trans q154
      clear rN bN
      by_cases hbig : j < 2 * k
      · obtain ⟨h1, h2⟩ := HC.out.1 hbig
        rw [h1]
        rw [HC1.out] at h2
        simp only [Cmd.mk.injEq] at h2
        obtain ⟨rfl, rfl, rfl, rfl, rfl⟩ := h2
        have hbigi : (j : Int) < 2 * (k : Int) := by omega
        have x0 : W5.cell? ⟨g15, 0, none⟩ = some (.int .i64 2) := cell_of_row _ _ 0 _ _ _ q155
        have x1 : W5.cell? ⟨g15, 1, none⟩ = some (.int .i64 0) := cell_of_row _ _ 1 _ _ _ q155
        have x2 : W5.cell? ⟨g15, 2, none⟩ = some (.int .i64 cs) := cell_of_row _ _ 2 _ _ _ q155
        have x3 : W5.cell? ⟨g15, 3, none⟩ = some (.int .i64 0) := cell_of_row _ _ 3 _ _ _ q155
        have x4 : W5.cell? ⟨g15, 4, none⟩ = some (.int .i64 0) := cell_of_row _ _ 4 _ _ _ q155
        have y3 : W5.cell? ⟨gV, 3, none⟩ = some (.int .i64 2) := cell_of_row _ _ 3 _ _ _ qV5
        have y4 : W5.cell? ⟨gV, 4, none⟩ = some (.int .i64 0) := cell_of_row _ _ 4 _ _ _ qV5
        have y5 : W5.cell? ⟨gV, 5, none⟩ = some (.int .i64 cs) := cell_of_row _ _ 5 _ _ _ qV5
        have y6 : W5.cell? ⟨gV, 6, none⟩ = some (.int .i64 0) := cell_of_row _ _ 6 _ _ _ qV5
        have y7 : W5.cell? ⟨gV, 7, none⟩ = some (.int .i64 0) := cell_of_row _ _ 7 _ _ _ qV5
        have hq := eql_com 2 0 cs 0 0 2 0 cs 0 0
        rw [decide_eq_true ⟨rfl, rfl, rfl, rfl, rfl⟩] at hq
        clear h1 HC HC1
        go_wp2
        go_ret
        exact ⟨by simp, d5⟩
      · rw [HC.out.2.1 hbig]
        have hbigi : ¬ (j : Int) < 2 * (k : Int) := by omega
        clear HC HC1
        go_wp2
        go_ret
        exact ⟨by simp, d5⟩
end Go.Proofs.YticjofjghpdmpabDoor
