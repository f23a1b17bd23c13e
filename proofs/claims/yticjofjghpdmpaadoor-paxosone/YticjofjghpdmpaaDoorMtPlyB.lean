/-
  The walk of a ply: a node votes for what was proposed.
-/
import Derived.Test.YticjofjghpdmpaaDoorMtPre
namespace Go.Proofs.YticjofjghpdmpaaDoor
open Go.RowKit
set_option linter.unusedVariables false

set_option maxHeartbeats 4000000 in
set_option maxRecDepth 100000 in
theorem play_again (w : World) (m : Nat) (node : Nat → Acc) (bid : Nat → Option Bid) (rounds : Int) (ch : Nat → Option Cmd) (f ys : Nat → Value) (bs : Nat → Option Nat) (h : St w m ⟨node, bid, rounds, ch⟩ f ys bs) (hI : MInv ⟨node, bid, rounds, ch⟩) (hr : rounds < 65000) (ht : NTab w) (hm : 0 < m)
    (pk pc ps pn pv : Int) (ik : I64 pk) (ic : I64 pc) (is : I64 ps) (in4 : I64 pn) (iv : I64 pv) (n k kd : Nat) (hn : pick pc 5 = (n : Int)) (hn5 : n < 5) (hk : pick ps 3 = (k : Int)) (hk3 : k < 3) (hkd : pick pk 12 = (kd : Int)) (hkd2 : kd < 12) (hk6 : 6 ≤ kd) (B : Bid) (hbk : bid k = some B) (hc : 3 ≤ countOf B) (s : Nat) (hs : pick pn 3 = (s : Int)) (hs3 : s < 3) (c : Cmd) (hw : B.what s = some c) :
    Calls Tryd.prog 24 #[.pointer (some ⟨m, 0, none⟩), .agg #[.int .i64 pk, .int .i64 pc, .int .i64 ps, .int .i64 pn, .int .i64 pv]] w fun e w' => e = .returned (.tuple #[]) ∧ Res w m rounds w' := by
  have HI : Hid (MInv ⟨node, bid, rounds, ch⟩) := hI
  have hr0 : 0 ≤ rounds := by obtain ⟨H, h0⟩ := hI; exact h0.r0
  clear hI
  have HT : Hid (NTab w) := ht
  have bb : Below w.heap.size w (w.alloc (.cells #[.int .i64 pk, .int .i64 pc, .int .i64 ps, .int .i64 pn, .int .i64 pv] 64)) := (Below.refl _ _).alloc (Nat.le_refl _) _
  have rr := heap_alloc_new w (.cells #[.int .i64 pk, .int .i64 pc, .int .i64 ps, .int .i64 pn, .int .i64 pv] 64)
  generalize hW0 : w.alloc (.cells #[.int .i64 pk, .int .i64 pc, .int .i64 ps, .int .i64 pn, .int .i64 pv] 64) = W0 at bb rr
  go_enter Tryd.func24, Tryd.ntmps24
  go_upto_region 1 with fail
  clear hW0
  have h0 := h.below bb
  have t0 := ht.below bb
  have d0 : Below m w W0 := bb.mono (Nat.le_of_lt h.mb.lt)
  have hgm : m < w.heap.size := h.mb.lt
  have lP : w.heap.size < W0.heap.size := (Array.getElem?_eq_some_iff.1 rr).1
  obtain ⟨gP, hgP⟩ : ∃ g, g = w.heap.size := ⟨_, rfl⟩
  rw [← hgP] at rr hgm lP ⊢
  clear hgP bb ht
  have p0 : W0.cell? ⟨gP, 0, none⟩ = some (.int .i64 pk) := cell_of_row _ _ 0 _ _ _ rr
  have p1 : W0.cell? ⟨gP, 1, none⟩ = some (.int .i64 pc) := cell_of_row _ _ 1 _ _ _ rr
  have p2 : W0.cell? ⟨gP, 2, none⟩ = some (.int .i64 ps) := cell_of_row _ _ 2 _ _ _ rr
  have p3 : W0.cell? ⟨gP, 3, none⟩ = some (.int .i64 pn) := cell_of_row _ _ 3 _ _ _ rr
  have p4 : W0.cell? ⟨gP, 4, none⟩ = some (.int .i64 pv) := cell_of_row _ _ 4 _ _ _ rr
  go_wp2_with fail
  refine (ic.picked 5 _ (by omega) (by omega)).mono ?_
  rintro e wq ⟨rfl, hwq⟩
  replace hwq := hwq.symm
  subst hwq
  rw [hn]
  go_wp2_with fail
  refine (is.picked 3 _ (by omega) (by omega)).mono ?_
  rintro e wq ⟨rfl, hwq⟩
  replace hwq := hwq.symm
  subst hwq
  rw [hk]
  have hib := runIndexArr 57 56 3 1 Tryd.underlying57 ptrSize m 15 k hk3
  rw [Nat.one_mul] at hib
  obtain ⟨g, hg, HBA0⟩ := h0.bd k hk3 B hbk
  have HBA : Hid (BidAt W0 g B) := HBA0
  clear HBA0
  have HG : Hid (bs k = some g) := hg
  have hgt := h0.gt k g hk3 hg
  have cb : W0.cell? ⟨m, 15 + k, none⟩ = some (.pointer (some ⟨g, 0, none⟩)) := by rw [h0.mb.cell (show 15 + k < 38 by omega), h0.mf.bp k hk3, hg]; rfl
  clear hg
  go_wp2_with fail
  refine (ik.picked 12 _ (by omega) (by omega)).mono ?_
  rintro e wq ⟨rfl, hwq⟩
  replace hwq := hwq.symm
  subst hwq
  rw [hkd]
  have hz : ¬ ((kd : Int) = 0) := by omega
  have hz6 : ¬ ((kd : Int) < 6) := by omega
  go_wp2_with fail
  refine (ik.picked 12 _ (by omega) (by omega)).mono ?_
  rintro e wq ⟨rfl, hwq⟩
  replace hwq := hwq.symm
  subst hwq
  rw [hkd]
  go_wp2_with fail
  refine (count_any W0 g B HBA.out).mono ?_
  rintro e wq ⟨rfl, hwq⟩
  replace hwq := hwq.symm
  subst hwq
  have hc5 := countOf_le B
  have HC : Hid (3 ≤ countOf B) := hc
  generalize countOf B = cn at hc hc5
  have hc2 : ¬ ((2 : Int) * (cn : Int) ≤ 5) := by omega
  go_wp2_with fail
  refine (in4.picked 3 _ (by omega) (by omega)).mono ?_
  rintro e wq ⟨rfl, hwq⟩
  replace hwq := hwq.symm
  subst hwq
  rw [hs]
  have iak := runIndexArr 59 4 3 1 Tryd.underlying59 boSize g 12 s hs3
  rw [Nat.one_mul] at iak
  have cak := HBA.out.askedAt hs3
  rw [hw] at cak
  have cak2 : W0.cell? ⟨g, 12 + s, none⟩ = some (.bool true) := cak
  clear cak p0 p1 p2 p3 p4 cb hib rr lP h HBA
  obtain ⟨V0, hV0⟩ : ∃ V0, V0 = W0 := ⟨_, rfl⟩
  rw [← hV0] at h0 t0 d0 cak2 ⊢
  clear hV0
  have s0 := h0
  have HBA : Hid (BidAt V0 g B) := by
    obtain ⟨g', hg', hba⟩ := s0.bd k hk3 B hbk
    obtain rfl : g' = g := Option.some.inj (hg'.symm.trans HG.out)
    exact hba
  have hml := s0.mb.lt
  have hgl := (s0.gt k g hk3 HG.out).2
  have hra := s0.nodeAt hn5
  have hrb := HBA.out.balAt
  have hL40 := (s0.ov n hn5).2
  have hsv : Sv V0 (ys n) (node n).vs := Sv.ofOwns (s0.ov n hn5).1 (by have := hL40; simp only at this; omega)
  simp only at hra hL40
  have hrw := HBA.out.whatAt hs3 hw
  have hgm3 := (s0.gt k g hk3 HG.out).1
  obtain ⟨P1, hP1⟩ : ∃ P1, accP (node n) (⟨(s : Int), B.bal, c⟩ : Vt) = P1 := ⟨_, rfl⟩
  obtain ⟨L1, hL1⟩ : ∃ L1, accL (node n) (⟨(s : Int), B.bal, c⟩ : Vt) = L1 := ⟨_, rfl⟩
  obtain ⟨E1, hE1⟩ : ∃ E1, votE (node n) (⟨(s : Int), B.bal, c⟩ : Vt) = E1 := ⟨_, rfl⟩
  obtain ⟨qr, qn⟩ := P1
  have HP1 : Hid (accP (node n) (⟨(s : Int), B.bal, c⟩ : Vt) = ⟨qr, qn⟩ ∧ accL (node n) (⟨(s : Int), B.bal, c⟩ : Vt) = L1 ∧ votE (node n) (⟨(s : Int), B.bal, c⟩ : Vt) = E1) := ⟨hP1, hL1, hE1⟩
  obtain ⟨K1, hK1⟩ : ∃ K1, L1.length = K1 := ⟨_, rfl⟩
  have HK1 : Hid (L1.length = K1) := hK1
  clear hP1 hL1 hE1 hK1
  go_wp2_with fail
  apply p_mergeG4 (fun gA gy cy W2 => W2.heap[gA]? = some (.cells #[.int .i64 qr, .int .i64 qn, .slice gy K1 cy] 26) ∧ Ov W2 (.slice gy K1 cy) L1 ∧ L1.length ≤ 40 ∧ Below V0.heap.size V0 W2 ∧ V0.heap.size ≤ gA)
  · intro K2 HK2
    have ed : Below V0.heap.size V0 V0.drew := (Below.refl _ _).drew
    refine wp_region_held (S := fun w' => Below V0.heap.size V0 w') (by kernel_rfl) ?_
    refine heldTake (i := 0) 83 (v := .pointer (some ⟨m, 0, none⟩)) rfl rfl (by kernel_rfl) (by kernel_rfl) (by kernel_rfl) (fun _ _ _ h => h) (Or.inl ⟨by rfl, fun _ _ => by kernel_rfl⟩) ed ?_
    simp only [Act.put, List.setIfInBounds_toArray, List.set_cons_zero, List.set_cons_succ]
    refine heldTake (i := 1) 84 (v := .int .i64 (n : Int)) rfl rfl (by kernel_rfl) (by kernel_rfl) (by kernel_rfl) (fun _ _ _ h => h) (Or.inl ⟨by rfl, fun _ _ => by kernel_rfl⟩) ed ?_
    simp only [Act.put, List.setIfInBounds_toArray, List.set_cons_zero, List.set_cons_succ]
    refine heldTake (i := 2) 85 (v := .pointer (some ⟨m, 0, none⟩)) rfl rfl (by kernel_rfl) (by kernel_rfl) (by kernel_rfl) (fun _ _ _ h => h) (Or.inl ⟨by rfl, fun _ _ => by kernel_rfl⟩) ed ?_
    simp only [Act.put, List.setIfInBounds_toArray, List.set_cons_zero, List.set_cons_succ]
    refine heldTake (i := 3) 86 (v := .pointer (some ⟨m, 0, none⟩)) rfl rfl (by kernel_rfl) (by kernel_rfl) (by kernel_rfl) (fun _ _ _ h => h) (Or.inl ⟨by rfl, fun _ _ => by kernel_rfl⟩) ed ?_
    simp only [Act.put, List.setIfInBounds_toArray, List.set_cons_zero, List.set_cons_succ]
    refine heldTake (i := 4) 87 (v := .pointer (some ⟨m, 3 * n, none⟩)) rfl rfl (by kernel_rfl) (by kernel_rfl) (by kernel_rfl) (fun _ _ _ h => h) (yieldIndexArr (by rfl) 55 26 5 3 (.tmp 86) (.tmp 84) rfl Tryd.underlying55 ac3k m 0 n (3 * n) hn5 (by omega) rfl rfl) ed ?_
    simp only [Act.put, List.setIfInBounds_toArray, List.set_cons_zero, List.set_cons_succ]
    refine heldTake (i := 5) 88 (v := .agg (acA (node n).p (ys n))) rfl rfl (by kernel_rfl) (by kernel_rfl) (by kernel_rfl) (fun _ _ _ h => h) (yieldsIf_load_mid (by rfl) 26 (.tmp 87) rfl m (3 * n) rfl [.int .i64 (node n).p.r, .int .i64 (node n).p.n, ys n] _ (fun w' hw' => pRange hw' hml hra) Tryd.underlying26 rfl ac3k) ed ?_
    simp only [Act.put, List.setIfInBounds_toArray, List.set_cons_zero, List.set_cons_succ]
    refine heldTake (i := 6) 89 (v := .int .i64 (s : Int)) rfl rfl (by kernel_rfl) (by kernel_rfl) (by kernel_rfl) (fun _ _ _ h => h) (Or.inl ⟨by rfl, fun _ _ => by kernel_rfl⟩) ed ?_
    simp only [Act.put, List.setIfInBounds_toArray, List.set_cons_zero, List.set_cons_succ]
    refine heldTake (i := 7) 90 (v := .pointer (some ⟨g, 0, none⟩)) rfl rfl (by kernel_rfl) (by kernel_rfl) (by kernel_rfl) (fun _ _ _ h => h) (Or.inl ⟨by rfl, fun _ _ => by kernel_rfl⟩) ed ?_
    simp only [Act.put, List.setIfInBounds_toArray, List.set_cons_zero, List.set_cons_succ]
    refine heldTake (i := 8) 91 (v := .pointer (some ⟨g, 0, none⟩)) rfl rfl (by kernel_rfl) (by kernel_rfl) (by kernel_rfl) (fun _ _ _ h => h) (Or.inl ⟨by rfl, fun _ _ => by kernel_rfl⟩) ed ?_
    simp only [Act.put, List.setIfInBounds_toArray, List.set_cons_zero, List.set_cons_succ]
    refine heldTake (i := 9) 92 (v := .pointer (some ⟨g, 0, none⟩)) rfl rfl (by kernel_rfl) (by kernel_rfl) (by kernel_rfl) (fun _ _ _ h => h) (Or.inl ⟨by rfl, fun _ _ => by kernel_rfl⟩) ed ?_
    simp only [Act.put, List.setIfInBounds_toArray, List.set_cons_zero, List.set_cons_succ]
    refine heldTake (i := 10) 93 (v := .agg (baA B.bal)) rfl rfl (by kernel_rfl) (by kernel_rfl) (by kernel_rfl) (fun _ _ _ h => h) (yieldsIf_load_mid (by rfl) 23 (.tmp 92) rfl g (0) rfl [.int .i64 B.bal.r, .int .i64 B.bal.n] _ (fun w' hw' => pRange hw' hgl hrb) Tryd.underlying23 rfl baSize) ed ?_
    simp only [Act.put, List.setIfInBounds_toArray, List.set_cons_zero, List.set_cons_succ]
    refine heldTake (i := 11) 94 (v := .pointer (some ⟨g, 0, none⟩)) rfl rfl (by kernel_rfl) (by kernel_rfl) (by kernel_rfl) (fun _ _ _ h => h) (Or.inl ⟨by rfl, fun _ _ => by kernel_rfl⟩) ed ?_
    simp only [Act.put, List.setIfInBounds_toArray, List.set_cons_zero, List.set_cons_succ]
    refine heldTake (i := 12) 95 (v := .int .i64 (s : Int)) rfl rfl (by kernel_rfl) (by kernel_rfl) (by kernel_rfl) (fun _ _ _ h => h) (Or.inl ⟨by rfl, fun _ _ => by kernel_rfl⟩) ed ?_
    simp only [Act.put, List.setIfInBounds_toArray, List.set_cons_zero, List.set_cons_succ]
    refine heldTake (i := 13) 96 (v := .pointer (some ⟨g, 0, none⟩)) rfl rfl (by kernel_rfl) (by kernel_rfl) (by kernel_rfl) (fun _ _ _ h => h) (Or.inl ⟨by rfl, fun _ _ => by kernel_rfl⟩) ed ?_
    simp only [Act.put, List.setIfInBounds_toArray, List.set_cons_zero, List.set_cons_succ]
    refine heldTake (i := 14) 97 (v := .pointer (some ⟨g, 15, none⟩)) rfl rfl (by kernel_rfl) (by kernel_rfl) (by kernel_rfl) (fun _ _ _ h => h) (Or.inl ⟨by rfl, fun _ _ => by kernel_rfl⟩) ed ?_
    simp only [Act.put, List.setIfInBounds_toArray, List.set_cons_zero, List.set_cons_succ]
    refine heldTake (i := 15) 98 (v := .pointer (some ⟨g, 15 + 5 * s, none⟩)) rfl rfl (by kernel_rfl) (by kernel_rfl) (by kernel_rfl) (fun _ _ _ h => h) (yieldIndexArr (by rfl) 58 37 3 5 (.tmp 97) (.tmp 95) rfl Tryd.underlying58 cmSize g 15 s (15 + 5 * s) hs3 (by omega) rfl rfl) ed ?_
    simp only [Act.put, List.setIfInBounds_toArray, List.set_cons_zero, List.set_cons_succ]
    refine heldTake (i := 16) 99 (v := .agg (cmC c)) rfl rfl (by kernel_rfl) (by kernel_rfl) (by kernel_rfl) (fun _ _ _ h => h) (yieldsIf_load_mid (by rfl) 37 (.tmp 98) rfl g (15 + 5 * s) rfl (cmL c) _ (fun w' hw' => pRange hw' hgl hrw) Tryd.underlying37 rfl cmSize) ed ?_
    simp only [Act.put, List.setIfInBounds_toArray, List.set_cons_zero, List.set_cons_succ]
    refine heldTake (i := 17) 100 (v := .agg #[.int .i64 (s : Int), .int .i64 B.bal.r, .int .i64 B.bal.n, .int .i64 c.k, .int .i64 c.c, .int .i64 c.s, .int .i64 c.n, .int .i64 c.v]) rfl rfl (by kernel_rfl) (by kernel_rfl) (by kernel_rfl) (fun _ _ _ h => h) (Or.inl ⟨by rfl, fun _ _ => by kernel_rfl⟩) ed ?_
    simp only [Act.put, List.setIfInBounds_toArray, List.set_cons_zero, List.set_cons_succ]
    refine heldTwo (i := 18) (i' := 22) (by kernel_rfl) ?_ ?_
    · refine (opCall (i := 18) (d := 101) (f := 16) (args := #[.agg (acA (node n).p (ys n)), .agg #[.int .i64 (s : Int), .int .i64 B.bal.r, .int .i64 B.bal.n, .int .i64 c.k, .int .i64 c.c, .int .i64 c.s, .int .i64 c.n, .int .i64 c.v]]) rfl (by kernel_rfl) rfl (by kernel_rfl) ((accept_own (node n).p (ys n) (node n).vs ⟨(s : Int), B.bal, c⟩ _ (hsv.below ed) (t0.below ed)).mono ?_))
      rintro e' wc1 ⟨y5, rfl, oy5, n5, bc1⟩
      have ec1 : Below V0.heap.size V0 wc1 := ed.trans (bc1.mono ed.size)
      rw [show accP ⟨(node n).p, (node n).vs⟩ ⟨(s : Int), B.bal, c⟩ = ⟨qr, qn⟩ from HP1.out.1, show votE ⟨(node n).p, (node n).vs⟩ ⟨(s : Int), B.bal, c⟩ = E1 from HP1.out.2.2]
      rw [show accL ⟨(node n).p, (node n).vs⟩ ⟨(s : Int), B.bal, c⟩ = L1 from HP1.out.2.1] at oy5 n5
      obtain ⟨gy, cy, hy5⟩ := ownsV_shape oy5
      rw [HK1.out] at hy5
      subst hy5
      have oy := Ov.of oy5
      simp only [acA]
      refine ⟨_, rfl, ec1, ?_⟩
      simp only [Act.put, List.setIfInBounds_toArray, List.set_cons_zero, List.set_cons_succ]
      refine heldTake (i := 19) 82 (v := .tuple #[.agg #[.int .i64 qr, .int .i64 qn, .slice gy K1 cy], .int .i64 E1]) rfl rfl (by kernel_rfl) (by kernel_rfl) (by kernel_rfl) (fun _ _ _ h => h) (Or.inl ⟨by rfl, fun _ _ => by kernel_rfl⟩) ec1 ?_
      simp only [Act.put, List.setIfInBounds_toArray, List.set_cons_zero, List.set_cons_succ]
      refine heldTake (i := 20) 102 (v := .agg #[.int .i64 qr, .int .i64 qn, .slice gy K1 cy]) rfl rfl (by kernel_rfl) (by kernel_rfl) (by kernel_rfl) (fun _ _ _ h => h) (Or.inl ⟨by rfl, fun _ _ => by kernel_rfl⟩) ec1 ?_
      simp only [Act.put, List.setIfInBounds_toArray, List.set_cons_zero, List.set_cons_succ]
      refine heldTake (i := 21) 103 (v := .int .i64 E1) rfl rfl (by kernel_rfl) (by kernel_rfl) (by kernel_rfl) (fun _ _ _ h => h) (Or.inl ⟨by rfl, fun _ _ => by kernel_rfl⟩) ec1 ?_
      simp only [Act.put, List.setIfInBounds_toArray, List.set_cons_zero, List.set_cons_succ]
      obtain ⟨gv2, hgv2⟩ : ∃ g, g = wc1.heap.size := ⟨_, rfl⟩
      have aG2 : Below wc1.heap.size wc1 (wc1.alloc (.cells #[.int .i64 0, .int .i64 0, .slice none 0 0] 26)) := (Below.refl _ _).alloc (Nat.le_refl _) _
      have eG2 : Below V0.heap.size V0 (wc1.alloc (.cells #[.int .i64 0, .int .i64 0, .slice none 0 0] 26)) := ec1.trans (aG2.mono ec1.size)
      have rG2 : (wc1.alloc (.cells #[.int .i64 0, .int .i64 0, .slice none 0 0] 26)).heap[gv2]? = some (.cells #[.int .i64 0, .int .i64 0, .slice none 0 0] 26) := by rw [hgv2]; exact heap_alloc_new _ _
      have hgle2 : V0.heap.size ≤ gv2 := by rw [hgv2]; exact ec1.size
      refine heldOne (i := 22) (by kernel_rfl) (opRun (i := 22) (d := 14) (v := .pointer (some ⟨gv2, 0, none⟩)) (w' := wc1.alloc (.cells #[.int .i64 0, .int .i64 0, .slice none 0 0] 26)) rfl (by kernel_rfl) rfl (by rw [hgv2]; kernel_rfl) ⟨eG2, ?_⟩)
      simp only [Act.put, List.setIfInBounds_toArray, List.set_cons_zero, List.set_cons_succ]
      have oy3 := oy.below aG2
      refine heldOne (i := 23) (by kernel_rfl) (opStore (i := 23) rfl (by kernel_rfl) rfl 26 (.tmp 14) (.tmp 102) rfl gv2 #[.int .i64 qr, .int .i64 qn, .slice gy K1 cy] (by kernel_rfl) (by kernel_rfl) 26 _ rG2 ac3k rfl (by simp [Value.oneCell']) ⟨oBelow_rowP eG2 hgle2 _, ?_⟩)
      have eS4 := oBelow_rowP eG2 hgle2 (#[.int .i64 qr, .int .i64 qn, .slice gy K1 cy])
      have rS4 := setRow_heap _ gv2 _ (#[.int .i64 qr, .int .i64 qn, .slice gy K1 cy]) 26 _ rG2
      have oy35 := Ov.otherRow oy3 rG2 ballotNe (#[.int .i64 qr, .int .i64 qn, .slice gy K1 cy])
      refine heldTake (i := 24) 15 (v := .int .i64 E1) rfl rfl (by kernel_rfl) (by kernel_rfl) (by kernel_rfl) (fun _ _ _ h => h) (Or.inl ⟨by rfl, fun _ _ => by kernel_rfl⟩) eS4 ?_
      simp only [Act.put, List.setIfInBounds_toArray, List.set_cons_zero, List.set_cons_succ]
      exact wpAnyH_done (by kernel_rfl) (HK2.out gv2 gy cy _ ⟨rS4, oy35, n5, eS4, hgle2⟩) _
    · obtain ⟨gv6, hgv6⟩ : ∃ g, g = V0.drew.heap.size := ⟨_, rfl⟩
      have aG6 : Below V0.drew.heap.size V0.drew (V0.drew.alloc (.cells #[.int .i64 0, .int .i64 0, .slice none 0 0] 26)) := (Below.refl _ _).alloc (Nat.le_refl _) _
      have eG6 : Below V0.heap.size V0 (V0.drew.alloc (.cells #[.int .i64 0, .int .i64 0, .slice none 0 0] 26)) := ed.trans (aG6.mono ed.size)
      have rG6 : (V0.drew.alloc (.cells #[.int .i64 0, .int .i64 0, .slice none 0 0] 26)).heap[gv6]? = some (.cells #[.int .i64 0, .int .i64 0, .slice none 0 0] 26) := by rw [hgv6]; exact heap_alloc_new _ _
      have hgle6 : V0.heap.size ≤ gv6 := by rw [hgv6]; exact ed.size
      refine (opRun (i := 22) (d := 14) (v := .pointer (some ⟨gv6, 0, none⟩)) (w' := V0.drew.alloc (.cells #[.int .i64 0, .int .i64 0, .slice none 0 0] 26)) rfl (by kernel_rfl) rfl (by rw [hgv6]; kernel_rfl) ⟨eG6, ?_⟩)
      simp only [Act.put, List.setIfInBounds_toArray, List.set_cons_zero, List.set_cons_succ]
      refine heldOne (i := 18) (by kernel_rfl) (opCall (i := 18) (d := 101) (f := 16) (args := #[.agg (acA (node n).p (ys n)), .agg #[.int .i64 (s : Int), .int .i64 B.bal.r, .int .i64 B.bal.n, .int .i64 c.k, .int .i64 c.c, .int .i64 c.s, .int .i64 c.n, .int .i64 c.v]]) rfl (by kernel_rfl) rfl (by kernel_rfl) ((accept_own (node n).p (ys n) (node n).vs ⟨(s : Int), B.bal, c⟩ _ (hsv.below eG6) (t0.below eG6)).mono ?_))
      rintro e' wc7 ⟨y5, rfl, oy5, n5, bc7⟩
      have ec7 : Below V0.heap.size V0 wc7 := eG6.trans (bc7.mono eG6.size)
      rw [show accP ⟨(node n).p, (node n).vs⟩ ⟨(s : Int), B.bal, c⟩ = ⟨qr, qn⟩ from HP1.out.1, show votE ⟨(node n).p, (node n).vs⟩ ⟨(s : Int), B.bal, c⟩ = E1 from HP1.out.2.2]
      rw [show accL ⟨(node n).p, (node n).vs⟩ ⟨(s : Int), B.bal, c⟩ = L1 from HP1.out.2.1] at oy5 n5
      obtain ⟨gy, cy, hy5⟩ := ownsV_shape oy5
      rw [HK1.out] at hy5
      subst hy5
      have oy := Ov.of oy5
      simp only [acA]
      have rg7 := (bc7.block _ (Array.getElem?_eq_some_iff.1 rG6).1).trans rG6
      refine ⟨_, rfl, ec7, ?_⟩
      simp only [Act.put, List.setIfInBounds_toArray, List.set_cons_zero, List.set_cons_succ]
      refine heldTake (i := 19) 82 (v := .tuple #[.agg #[.int .i64 qr, .int .i64 qn, .slice gy K1 cy], .int .i64 E1]) rfl rfl (by kernel_rfl) (by kernel_rfl) (by kernel_rfl) (fun _ _ _ h => h) (Or.inl ⟨by rfl, fun _ _ => by kernel_rfl⟩) ec7 ?_
      simp only [Act.put, List.setIfInBounds_toArray, List.set_cons_zero, List.set_cons_succ]
      refine heldTake (i := 20) 102 (v := .agg #[.int .i64 qr, .int .i64 qn, .slice gy K1 cy]) rfl rfl (by kernel_rfl) (by kernel_rfl) (by kernel_rfl) (fun _ _ _ h => h) (Or.inl ⟨by rfl, fun _ _ => by kernel_rfl⟩) ec7 ?_
      simp only [Act.put, List.setIfInBounds_toArray, List.set_cons_zero, List.set_cons_succ]
      refine heldTake (i := 21) 103 (v := .int .i64 E1) rfl rfl (by kernel_rfl) (by kernel_rfl) (by kernel_rfl) (fun _ _ _ h => h) (Or.inl ⟨by rfl, fun _ _ => by kernel_rfl⟩) ec7 ?_
      simp only [Act.put, List.setIfInBounds_toArray, List.set_cons_zero, List.set_cons_succ]
      refine heldOne (i := 23) (by kernel_rfl) (opStore (i := 23) rfl (by kernel_rfl) rfl 26 (.tmp 14) (.tmp 102) rfl gv6 #[.int .i64 qr, .int .i64 qn, .slice gy K1 cy] (by kernel_rfl) (by kernel_rfl) 26 _ rg7 ac3k rfl (by simp [Value.oneCell']) ⟨oBelow_rowP ec7 hgle6 _, ?_⟩)
      have eS8 := oBelow_rowP ec7 hgle6 (#[.int .i64 qr, .int .i64 qn, .slice gy K1 cy])
      have rS8 := setRow_heap _ gv6 _ (#[.int .i64 qr, .int .i64 qn, .slice gy K1 cy]) 26 _ rg7
      have oy9 := Ov.otherRow oy rg7 ballotNe (#[.int .i64 qr, .int .i64 qn, .slice gy K1 cy])
      refine heldTake (i := 24) 15 (v := .int .i64 E1) rfl rfl (by kernel_rfl) (by kernel_rfl) (by kernel_rfl) (fun _ _ _ h => h) (Or.inl ⟨by rfl, fun _ _ => by kernel_rfl⟩) eS8 ?_
      simp only [Act.put, List.setIfInBounds_toArray, List.set_cons_zero, List.set_cons_succ]
      exact wpAnyH_done (by kernel_rfl) (HK2.out gv6 gy cy _ ⟨rS8, oy9, n5, eS8, hgle6⟩) _
  · rintro gA gy cy V ⟨qA, oy, hVL0, bV, hgA⟩
    have s1 := s0.below bV
    have d1 : Below m w V := d0.trans (bV.mono (Nat.le_of_lt hml))
    have t1 := t0.below bV
    have hrg := pRange bV hgl hrb
    rcases vot_two (HI.out.acc hn5) (HI.out.vtMay hbk hw) with ⟨f1, f2, f3, f4⟩ | ⟨f1, f2, f3, f4⟩
    · have e1 : E1 = 7 := by rw [← HP1.out.2.2]; exact f1
      subst e1
      clear f1 f2 f3 f4 HP1 HK1
      go_wp2
      (try simp only [Exit.inBlock, Exit.then])
      refine bodyPost_ret (results_none rfl _ _ _) rfl ?_
      exact ⟨rfl, _, _, _, _, s1, HI.out, by show rounds ≤ rounds + 1; omega, d1⟩
    · have e1 : E1 = 0 := by rw [← HP1.out.2.2]; exact f1
      have e2 : (⟨qr, qn⟩ : Bal) = B.bal := by rw [← HP1.out.1]; exact f2
      have e3 : L1 = (insV (node n).vs ⟨(s : Int), B.bal, c⟩) := by rw [← HP1.out.2.1]; exact f3
      obtain rfl : qr = B.bal.r := by rw [← e2]
      obtain rfl : qn = B.bal.n := by rw [← e2]
      subst e1
      rw [e3] at oy hVL0
      have HJ : Hid (MInv ⟨upN node n ⟨B.bal, (insV (node n).vs ⟨(s : Int), B.bal, c⟩)⟩, bid, rounds, ch⟩) := HI.out.vote hbk hn5 hw f4
      have hVL : (insV (node n).vs ⟨(s : Int), B.bal, c⟩).length ≤ 40 := hVL0
      have hrA : V.rangeAt gA 0 [.int .i64 B.bal.r, .int .i64 B.bal.n] := range2 (cell_of_row _ _ 0 _ _ _ qA) (cell_of_row _ _ 1 _ _ _ qA)
      clear f1 f2 f3 f4 HP1 HK1 e2 e3 hVL0
      go_wp2_with fail
      have cF : V.cell? ⟨m, 37, none⟩ = some (.bool true) := by rw [s1.mb.cell (by omega), s1.mf.fi]
      have heb := eql_bal B.bal.r B.bal.n B.bal.r B.bal.n
      rw [decide_eq_true ⟨rfl, rfl⟩] at heb
      apply p_merge (fun W2 => Only m V W2 ∧ St W2 m ⟨node, bid, rounds, ch⟩ (updF f 37 [.bool true]) ys bs)
      · intro K2 HK2
        refine wp_region_held (S := fun w' => w'.cell? ⟨m, 37, none⟩ = some (.bool true) ∧ Only m V w') (by kernel_rfl) ?_
        have hS0 : (fun w' : World => w'.cell? ⟨m, 37, none⟩ = some (.bool true) ∧ Only m V w') V.drew := ⟨cF, (Only.refl _ _).drew⟩
        refine heldTake (i := 0) 106 (v := .pointer (some ⟨m, 0, none⟩)) rfl rfl (by kernel_rfl) (by kernel_rfl) (by kernel_rfl) (fun _ _ _ h => h) (Or.inl ⟨by rfl, fun _ _ => by kernel_rfl⟩) hS0 ?_
        simp only [Act.put, List.setIfInBounds_toArray, List.set_cons_zero, List.set_cons_succ]
        refine heldTake (i := 1) 107 (v := .pointer (some ⟨m, 0, none⟩)) rfl rfl (by kernel_rfl) (by kernel_rfl) (by kernel_rfl) (fun _ _ _ h => h) (Or.inl ⟨by rfl, fun _ _ => by kernel_rfl⟩) hS0 ?_
        simp only [Act.put, List.setIfInBounds_toArray, List.set_cons_zero, List.set_cons_succ]
        refine heldTake (i := 2) 108 (v := .pointer (some ⟨m, 0, none⟩)) rfl rfl (by kernel_rfl) (by kernel_rfl) (by kernel_rfl) (fun _ _ _ h => h) (Or.inl ⟨by rfl, fun _ _ => by kernel_rfl⟩) hS0 ?_
        simp only [Act.put, List.setIfInBounds_toArray, List.set_cons_zero, List.set_cons_succ]
        refine heldTake (i := 3) 109 (v := .pointer (some ⟨m, 37, none⟩)) rfl rfl (by kernel_rfl) (by kernel_rfl) (by kernel_rfl) (fun _ _ _ h => h) (Or.inl ⟨by rfl, fun _ _ => by kernel_rfl⟩) hS0 ?_
        simp only [Act.put, List.setIfInBounds_toArray, List.set_cons_zero, List.set_cons_succ]
        refine heldTake (i := 4) 110 (v := .bool true) rfl rfl (by kernel_rfl) (by kernel_rfl) (by kernel_rfl) (fun _ _ _ h => h) (yieldCell (by rfl) 4 (.tmp 109) rfl _ Tryd.underlying4 rfl ⟨m, 37, none⟩ rfl (.bool true) (fun w' hw' => hw'.1)) hS0 ?_
        simp only [Act.put, List.setIfInBounds_toArray, List.set_cons_zero, List.set_cons_succ]
        refine heldTake (i := 5) 111 (v := .bool true) rfl rfl (by kernel_rfl) (by kernel_rfl) (by kernel_rfl) (fun _ _ _ h => h) (Or.inl ⟨by rfl, fun _ _ => by kernel_rfl⟩) hS0 ?_
        simp only [Act.put, List.setIfInBounds_toArray, List.set_cons_zero, List.set_cons_succ]
        refine heldTake (i := 6) 112 (v := .int .i64 0) rfl rfl (by kernel_rfl) (by kernel_rfl) (by kernel_rfl) (fun _ _ _ h => h) (Or.inl ⟨by rfl, fun _ _ => by kernel_rfl⟩) hS0 ?_
        simp only [Act.put, List.setIfInBounds_toArray, List.set_cons_zero, List.set_cons_succ]
        refine heldTake (i := 7) 113 (v := .bool true) rfl rfl (by kernel_rfl) (by kernel_rfl) (by kernel_rfl) (fun _ _ _ h => h) (Or.inl ⟨by rfl, fun _ _ => by kernel_rfl⟩) hS0 ?_
        simp only [Act.put, List.setIfInBounds_toArray, List.set_cons_zero, List.set_cons_succ]
        refine heldTake (i := 8) 114 (v := .bool true) rfl rfl (by kernel_rfl) (by kernel_rfl) (by kernel_rfl) (fun _ _ _ h => h) (Or.inl ⟨by rfl, fun _ _ => by kernel_rfl⟩) hS0 ?_
        simp only [Act.put, List.setIfInBounds_toArray, List.set_cons_zero, List.set_cons_succ]
        refine heldTake (i := 9) 115 (v := .bool true) rfl rfl (by kernel_rfl) (by kernel_rfl) (by kernel_rfl) (fun _ _ _ h => h) (Or.inl ⟨by rfl, fun _ _ => by kernel_rfl⟩) hS0 ?_
        simp only [Act.put, List.setIfInBounds_toArray, List.set_cons_zero, List.set_cons_succ]
        refine heldTake (i := 10) 116 (v := .pointer (some ⟨gA, 0, none⟩)) rfl rfl (by kernel_rfl) (by kernel_rfl) (by kernel_rfl) (fun _ _ _ h => h) (Or.inl ⟨by rfl, fun _ _ => by kernel_rfl⟩) hS0 ?_
        simp only [Act.put, List.setIfInBounds_toArray, List.set_cons_zero, List.set_cons_succ]
        refine heldTake (i := 11) 117 (v := .agg (baA B.bal)) rfl rfl (by kernel_rfl) (by kernel_rfl) (by kernel_rfl) (fun _ _ _ h => h) (yieldsIf_load_mid (by rfl) 23 (.tmp 116) rfl gA (0) rfl [.int .i64 B.bal.r, .int .i64 B.bal.n] _ (fun w' hw' => onlyRange hw'.2 (by omega) hrA) Tryd.underlying23 rfl baSize) hS0 ?_
        simp only [Act.put, List.setIfInBounds_toArray, List.set_cons_zero, List.set_cons_succ]
        refine heldTake (i := 12) 118 (v := .pointer (some ⟨g, 0, none⟩)) rfl rfl (by kernel_rfl) (by kernel_rfl) (by kernel_rfl) (fun _ _ _ h => h) (Or.inl ⟨by rfl, fun _ _ => by kernel_rfl⟩) hS0 ?_
        simp only [Act.put, List.setIfInBounds_toArray, List.set_cons_zero, List.set_cons_succ]
        refine heldTake (i := 13) 119 (v := .pointer (some ⟨g, 0, none⟩)) rfl rfl (by kernel_rfl) (by kernel_rfl) (by kernel_rfl) (fun _ _ _ h => h) (Or.inl ⟨by rfl, fun _ _ => by kernel_rfl⟩) hS0 ?_
        simp only [Act.put, List.setIfInBounds_toArray, List.set_cons_zero, List.set_cons_succ]
        refine heldTake (i := 14) 120 (v := .pointer (some ⟨g, 0, none⟩)) rfl rfl (by kernel_rfl) (by kernel_rfl) (by kernel_rfl) (fun _ _ _ h => h) (Or.inl ⟨by rfl, fun _ _ => by kernel_rfl⟩) hS0 ?_
        simp only [Act.put, List.setIfInBounds_toArray, List.set_cons_zero, List.set_cons_succ]
        refine heldTake (i := 15) 121 (v := .agg (baA B.bal)) rfl rfl (by kernel_rfl) (by kernel_rfl) (by kernel_rfl) (fun _ _ _ h => h) (yieldsIf_load_mid (by rfl) 23 (.tmp 120) rfl g (0) rfl [.int .i64 B.bal.r, .int .i64 B.bal.n] _ (fun w' hw' => onlyRange hw'.2 (by omega) hrg) Tryd.underlying23 rfl baSize) hS0 ?_
        simp only [Act.put, List.setIfInBounds_toArray, List.set_cons_zero, List.set_cons_succ]
        refine heldTake (i := 16) 122 (v := .bool true) rfl rfl (by kernel_rfl) (by kernel_rfl) (by kernel_rfl) (fun _ _ _ h => h) (yieldBin (by rfl) .eql 23 23 (.tmp 117) (.tmp 121) rfl _ _ _ rfl rfl (fun _ => by kernel_rfl) heb) hS0 ?_
        simp only [Act.put, List.setIfInBounds_toArray, List.set_cons_zero, List.set_cons_succ]
        refine heldTake (i := 17) 123 (v := .bool true) rfl rfl (by kernel_rfl) (by kernel_rfl) (by kernel_rfl) (fun _ _ _ h => h) (Or.inl ⟨by rfl, fun _ _ => by kernel_rfl⟩) hS0 ?_
        simp only [Act.put, List.setIfInBounds_toArray, List.set_cons_zero, List.set_cons_succ]
        refine heldTake (i := 18) 124 (v := .pointer (some ⟨m, 0, none⟩)) rfl rfl (by kernel_rfl) (by kernel_rfl) (by kernel_rfl) (fun _ _ _ h => h) (Or.inl ⟨by rfl, fun _ _ => by kernel_rfl⟩) hS0 ?_
        simp only [Act.put, List.setIfInBounds_toArray, List.set_cons_zero, List.set_cons_succ]
        refine heldTake (i := 19) 125 (v := .pointer (some ⟨m, 37, none⟩)) rfl rfl (by kernel_rfl) (by kernel_rfl) (by kernel_rfl) (fun _ _ _ h => h) (Or.inl ⟨by rfl, fun _ _ => by kernel_rfl⟩) hS0 ?_
        simp only [Act.put, List.setIfInBounds_toArray, List.set_cons_zero, List.set_cons_succ]
        have O1 : Only m V (V.drew.setCell ⟨m, 37, none⟩ (.bool true)) := ((Only.refl m V).drew).trans (Only.one _ _ _ _)
        have B1 : Blk (V.drew.setCell ⟨m, 37, none⟩ (.bool true)) m 61 38 _ := (s1.mb.keep (w' := V.drew) rfl).one 37 (.bool true)
        refine heldOne (i := 20) (by kernel_rfl) (opStoreOne rfl (by kernel_rfl) rfl 4 (.tmp 125) (.tmp 123) rfl m 37 (.bool true) _ (by kernel_rfl) (by kernel_rfl) cF (s1.mb.frozen 37) boSize rfl ⟨⟨World.cell?_setCell_same _ _ _ cF, O1⟩, ?_⟩)
        exact wpAnyH_done (by kernel_rfl) (HK2 _ ⟨O1, s1.turnM O1 B1 s1.mf.fine s1.ov⟩) _
      · rintro V1 ⟨oF, s2⟩
        have qA2 := (oF.other gA (by omega)).trans qA
        have oyF := Ov.only s1.mb mtNe oF oy
        go_wp2_with fail
        apply p_mergeI0 (fun W2 => Only m V1 W2 ∧ St W2 m ⟨upN node n ⟨B.bal, (insV (node n).vs ⟨(s : Int), B.bal, c⟩)⟩, bid, rounds, ch⟩ (updF (updF f 37 [.bool true]) (3 * n) [.int .i64 B.bal.r, .int .i64 B.bal.n, .slice gy K1 cy]) (upN ys n (.slice gy K1 cy)) bs)
        · intro K2 HK2
          refine wp_region_held (S := fun w' => Only m V1 w') (by kernel_rfl) ?_
          have hS0 : (fun w' : World => Only m V1 w') V1.drew := (Only.refl _ _).drew
          refine heldTake (i := 0) 126 (v := .pointer (some ⟨m, 0, none⟩)) rfl rfl (by kernel_rfl) (by kernel_rfl) (by kernel_rfl) (fun _ _ _ h => h) (Or.inl ⟨by rfl, fun _ _ => by kernel_rfl⟩) hS0 ?_
          simp only [Act.put, List.setIfInBounds_toArray, List.set_cons_zero, List.set_cons_succ]
          refine heldTake (i := 1) 127 (v := .int .i64 (n : Int)) rfl rfl (by kernel_rfl) (by kernel_rfl) (by kernel_rfl) (fun _ _ _ h => h) (Or.inl ⟨by rfl, fun _ _ => by kernel_rfl⟩) hS0 ?_
          simp only [Act.put, List.setIfInBounds_toArray, List.set_cons_zero, List.set_cons_succ]
          refine heldTake (i := 2) 128 (v := .agg #[.int .i64 B.bal.r, .int .i64 B.bal.n, .slice gy K1 cy]) rfl rfl (by kernel_rfl) (by kernel_rfl) (by kernel_rfl) (fun _ _ _ h => h) (yieldRow (by rfl) 26 (.tmp 14) rfl gA rfl 26 _ (fun w' hw' => (hw'.other gA (by omega)).trans qA2) Tryd.underlying26 rfl ac3k) hS0 ?_
          simp only [Act.put, List.setIfInBounds_toArray, List.set_cons_zero, List.set_cons_succ]
          refine heldTake (i := 3) 129 (v := .pointer (some ⟨m, 0, none⟩)) rfl rfl (by kernel_rfl) (by kernel_rfl) (by kernel_rfl) (fun _ _ _ h => h) (Or.inl ⟨by rfl, fun _ _ => by kernel_rfl⟩) hS0 ?_
          simp only [Act.put, List.setIfInBounds_toArray, List.set_cons_zero, List.set_cons_succ]
          refine heldTake (i := 4) 130 (v := .pointer (some ⟨m, 0, none⟩)) rfl rfl (by kernel_rfl) (by kernel_rfl) (by kernel_rfl) (fun _ _ _ h => h) (Or.inl ⟨by rfl, fun _ _ => by kernel_rfl⟩) hS0 ?_
          simp only [Act.put, List.setIfInBounds_toArray, List.set_cons_zero, List.set_cons_succ]
          refine heldTake (i := 5) 131 (v := .pointer (some ⟨m, 3 * n, none⟩)) rfl rfl (by kernel_rfl) (by kernel_rfl) (by kernel_rfl) (fun _ _ _ h => h) (yieldIndexArr (by rfl) 55 26 5 3 (.tmp 130) (.tmp 127) rfl Tryd.underlying55 ac3k m 0 n (3 * n) hn5 (by omega) rfl rfl) hS0 ?_
          simp only [Act.put, List.setIfInBounds_toArray, List.set_cons_zero, List.set_cons_succ]
          have O2 : Only m V1 (V1.drew.setCells m (3 * n) [.int .i64 B.bal.r, .int .i64 B.bal.n, .slice gy K1 cy]) := ((Only.refl m V1).drew).trans (Only.store _ _ _ _)
          have B2 : Blk (V1.drew.setCells m (3 * n) [.int .i64 B.bal.r, .int .i64 B.bal.n, .slice gy K1 cy]) m 61 38 _ := (s2.mb.keep (w' := V1.drew) rfl).store (3 * n) [.int .i64 B.bal.r, .int .i64 B.bal.n, .slice gy K1 cy]
          refine heldOne (i := 6) (by kernel_rfl) (opStoreMid rfl (by kernel_rfl) rfl 26 (.tmp 131) (.tmp 128) rfl m (3 * n) #[.int .i64 B.bal.r, .int .i64 B.bal.n, .slice gy K1 cy] (by kernel_rfl) (by kernel_rfl) ((s2.mb.keep (w' := V1.drew) rfl).there (by show 3 * n + 3 ≤ 38; omega)) ac3k (by simp [Value.oneCell']) ⟨O2, ?_⟩)
          exact wpAnyH_done (by kernel_rfl) (HK2 _ ⟨O2, s2.vote O2 hn5 B.bal (insV (node n).vs ⟨(s : Int), B.bal, c⟩) (.slice gy K1 cy) B2 oyF hVL⟩) _
        · rintro V2 ⟨oN, s3⟩
          have d3 := (d1.trans (oF.below (Nat.le_refl _))).trans (oN.below (Nat.le_refl _))
          have t3 := (t1.low hm (oF.below (Nat.le_refl _))).low hm (oN.below (Nat.le_refl _))
          clear s1 s2 oF oN oyF qA qA2 hrA cF heb hrg d1 t1
          go_wp2_with fail
          refine (look_any V2 m _ _ _ _ s3 HJ.out t3 hm).mono ?_
          rintro e w9 ⟨rfl, ch9, f9, s9, i9, b9⟩
          go_wp2
          go_end0
          exact ⟨rfl, _, _, _, _, s9, i9, by show rounds ≤ rounds + 1; omega, d3.trans b9⟩
end Go.Proofs.YticjofjghpdmpaaDoor
/-
  The walk of a ply: what must be proposed is asked for; a vote was told.
-/
namespace Go.Proofs.YticjofjghpdmpaaDoor
open Go.RowKit
set_option linter.unusedVariables false

set_option maxHeartbeats 4000000 in
set_option maxRecDepth 100000 in
theorem play_ask1 (w : World) (m : Nat) (node : Nat → Acc) (bid : Nat → Option Bid) (rounds : Int) (ch : Nat → Option Cmd) (f ys : Nat → Value) (bs : Nat → Option Nat) (h : St w m ⟨node, bid, rounds, ch⟩ f ys bs) (hI : MInv ⟨node, bid, rounds, ch⟩) (hr : rounds < 65000) (ht : NTab w) (hm : 0 < m)
    (pk pc ps pn pv : Int) (ik : I64 pk) (ic : I64 pc) (is : I64 ps) (in4 : I64 pn) (iv : I64 pv) (n k kd : Nat) (hn : pick pc 5 = (n : Int)) (hn5 : n < 5) (hk : pick ps 3 = (k : Int)) (hk3 : k < 3) (hkd : pick pk 12 = (kd : Int)) (hkd2 : kd < 12) (hk6 : 6 ≤ kd) (B : Bid) (hbk : bid k = some B) (hc : 3 ≤ countOf B) (s : Nat) (hs : pick pn 3 = (s : Int)) (hs3 : s < 3) (hw : B.what s = none) (u : Vt) (hu : pickO (listsOf B) (s : Int) = some u) :
    Calls Tryd.prog 24 #[.pointer (some ⟨m, 0, none⟩), .agg #[.int .i64 pk, .int .i64 pc, .int .i64 ps, .int .i64 pn, .int .i64 pv]] w fun e w' => e = .returned (.tuple #[]) ∧ Res w m rounds w' := by
  have HI : Hid (MInv ⟨node, bid, rounds, ch⟩) := hI
  have hr0 : 0 ≤ rounds := by obtain ⟨H, h0⟩ := hI; exact h0.r0
  clear hI
  have HT : Hid (NTab w) := ht
  have bb : Below w.heap.size w (w.alloc (.cells #[.int .i64 pk, .int .i64 pc, .int .i64 ps, .int .i64 pn, .int .i64 pv] 64)) := (Below.refl _ _).alloc (Nat.le_refl _) _
  have rr := heap_alloc_new w (.cells #[.int .i64 pk, .int .i64 pc, .int .i64 ps, .int .i64 pn, .int .i64 pv] 64)
  generalize hW0 : w.alloc (.cells #[.int .i64 pk, .int .i64 pc, .int .i64 ps, .int .i64 pn, .int .i64 pv] 64) = W0 at bb rr
  go_enter Tryd.func24, Tryd.ntmps24
  go_upto_region 1 with fail
  clear hW0
  have h0 := h.below bb
  have t0 := ht.below bb
  have d0 : Below m w W0 := bb.mono (Nat.le_of_lt h.mb.lt)
  have hgm : m < w.heap.size := h.mb.lt
  have lP : w.heap.size < W0.heap.size := (Array.getElem?_eq_some_iff.1 rr).1
  obtain ⟨gP, hgP⟩ : ∃ g, g = w.heap.size := ⟨_, rfl⟩
  rw [← hgP] at rr hgm lP ⊢
  clear hgP bb ht
  have p0 : W0.cell? ⟨gP, 0, none⟩ = some (.int .i64 pk) := cell_of_row _ _ 0 _ _ _ rr
  have p1 : W0.cell? ⟨gP, 1, none⟩ = some (.int .i64 pc) := cell_of_row _ _ 1 _ _ _ rr
  have p2 : W0.cell? ⟨gP, 2, none⟩ = some (.int .i64 ps) := cell_of_row _ _ 2 _ _ _ rr
  have p3 : W0.cell? ⟨gP, 3, none⟩ = some (.int .i64 pn) := cell_of_row _ _ 3 _ _ _ rr
  have p4 : W0.cell? ⟨gP, 4, none⟩ = some (.int .i64 pv) := cell_of_row _ _ 4 _ _ _ rr
  go_wp2_with fail
  refine (ic.picked 5 _ (by omega) (by omega)).mono ?_
  rintro e wq ⟨rfl, hwq⟩
  replace hwq := hwq.symm
  subst hwq
  rw [hn]
  go_wp2_with fail
  refine (is.picked 3 _ (by omega) (by omega)).mono ?_
  rintro e wq ⟨rfl, hwq⟩
  replace hwq := hwq.symm
  subst hwq
  rw [hk]
  have hib := runIndexArr 57 56 3 1 Tryd.underlying57 ptrSize m 15 k hk3
  rw [Nat.one_mul] at hib
  obtain ⟨g, hg, HBA0⟩ := h0.bd k hk3 B hbk
  have HBA : Hid (BidAt W0 g B) := HBA0
  clear HBA0
  have HG : Hid (bs k = some g) := hg
  have hgt := h0.gt k g hk3 hg
  have cb : W0.cell? ⟨m, 15 + k, none⟩ = some (.pointer (some ⟨g, 0, none⟩)) := by rw [h0.mb.cell (show 15 + k < 38 by omega), h0.mf.bp k hk3, hg]; rfl
  clear hg
  go_wp2_with fail
  refine (ik.picked 12 _ (by omega) (by omega)).mono ?_
  rintro e wq ⟨rfl, hwq⟩
  replace hwq := hwq.symm
  subst hwq
  rw [hkd]
  have hz : ¬ ((kd : Int) = 0) := by omega
  have hz6 : ¬ ((kd : Int) < 6) := by omega
  go_wp2_with fail
  refine (ik.picked 12 _ (by omega) (by omega)).mono ?_
  rintro e wq ⟨rfl, hwq⟩
  replace hwq := hwq.symm
  subst hwq
  rw [hkd]
  go_wp2_with fail
  refine (count_any W0 g B HBA.out).mono ?_
  rintro e wq ⟨rfl, hwq⟩
  replace hwq := hwq.symm
  subst hwq
  have hc5 := countOf_le B
  have HC : Hid (3 ≤ countOf B) := hc
  generalize countOf B = cn at hc hc5
  have hc2 : ¬ ((2 : Int) * (cn : Int) ≤ 5) := by omega
  go_wp2_with fail
  refine (in4.picked 3 _ (by omega) (by omega)).mono ?_
  rintro e wq ⟨rfl, hwq⟩
  replace hwq := hwq.symm
  subst hwq
  rw [hs]
  have iak := runIndexArr 59 4 3 1 Tryd.underlying59 boSize g 12 s hs3
  rw [Nat.one_mul] at iak
  have cak := HBA.out.askedAt hs3
  rw [hw] at cak
  have cak2 : W0.cell? ⟨g, 12 + s, none⟩ = some (.bool false) := cak
  have HE : Hid (pickE (listsOf B) (s : Int) = 0) := HI.out.pickE hbk hs3
  go_wp2_with fail
  refine (lists_any W0 g B HBA.out).mono ?_
  rintro e w1 ⟨y1, rfl, sv1, b1⟩
  obtain ⟨ay, cy, hy1⟩ := sv1.shape
  obtain ⟨N1, hN1⟩ : ∃ N1, (listsOf B).length = N1 := ⟨_, rfl⟩
  rw [hN1] at hy1
  clear hN1
  subst hy1
  have s1 := h0.below b1
  have t1 := t0.below b1
  have d1 : Below m w w1 := d0.trans (b1.mono (Nat.le_of_lt h0.mb.lt))
  have q1 := (b1.block _ lP).trans rr
  have lP1 := Nat.lt_of_lt_of_le lP b1.size
  clear cak cak2 iak p0 p1 p2 p3 p4 cb hib
  go_wp2_with fail
  refine (pick_any _ (listsOf B) (s : Int) w1 sv1 t1).mono ?_
  rintro e w2 ⟨rfl, b2⟩
  have s2 := s1.below b2
  have t2 := t1.below b2
  have d2 : Below m w w2 := d1.trans (b2.mono (Nat.le_of_lt s1.mb.lt))
  have q2 := (b2.block _ lP1).trans q1
  have lP2 := Nat.lt_of_lt_of_le lP1 b2.size
  rw [HE.out]
  obtain ⟨f1, f2⟩ : pickF (listsOf B) (s : Int) = true ∧ pickC (listsOf B) (s : Int) = u.w := by
    rcases pick_two _ _ HE.out with ⟨f1, _⟩ | ⟨v, f1, f2, f3⟩
    · rw [hu] at f1; cases f1
    · rw [hu] at f1
      obtain rfl := Option.some.inj f1
      exact ⟨f2, f3⟩
  rw [f1, f2]
  have HW : Hid (u.w.e = 0 ∧ (pickO (listsOf B) (s : Int) = none ∨ ∃ v, pickO (listsOf B) (s : Int) = some v ∧ u.w = v.w)) := ⟨HI.out.pickW hbk hu, .inr ⟨u, hu, rfl⟩⟩
  clear f1 f2 hu
  generalize u.w = c at HW
  obtain ⟨ck, cc, cs, cn5, cv⟩ := c
  simp only [cmC, cmA]
  have bN : Below w2.heap.size w2 (w2.alloc (.cells #[.int .i64 0, .int .i64 0, .int .i64 0, .int .i64 0, .int .i64 0] 37)) := (Below.refl _ _).alloc (Nat.le_refl _) _
  have rN := heap_alloc_new w2 (.cells #[.int .i64 0, .int .i64 0, .int .i64 0, .int .i64 0, .int .i64 0] 37)
  have on : (#[.int .i64 ck, .int .i64 cc, .int .i64 cs, .int .i64 cn5, .int .i64 cv] : Array Value).all (·.oneCell') = true := by simp [Value.oneCell']
  generalize hN : w2.alloc (.cells #[.int .i64 0, .int .i64 0, .int .i64 0, .int .i64 0, .int .i64 0] 37) = N at bN rN
  go_upto_region 8 with ((with_reducible (refine pxLook ?_)); (refine wpList_store_row rfl 37 (.tmp 11) (.tmp 47) rfl w2.heap.size #[.int .i64 ck, .int .i64 cc, .int .i64 cs, .int .i64 cn5, .int .i64 cv] rfl rfl 37 _ rN cmSize rfl on ?_))
  clear hN
  have qN := setRow_heap N w2.heap.size _ (#[.int .i64 ck, .int .i64 cc, .int .i64 cs, .int .i64 cn5, .int .i64 cv]) 37 _ rN
  replace bN := oBelow_rowP bN (Nat.le_refl _) (#[.int .i64 ck, .int .i64 cc, .int .i64 cs, .int .i64 cn5, .int .i64 cv])
  generalize N.setRow w2.heap.size (#[.int .i64 ck, .int .i64 cc, .int .i64 cs, .int .i64 cn5, .int .i64 cv]) = W at qN bN ⊢
  have lN : w2.heap.size < W.heap.size := (Array.getElem?_eq_some_iff.1 qN).1
  have hgC0 : gP < w2.heap.size := lP2
  have hgC1 : g < w2.heap.size := (s2.gt k g hk3 HG.out).2
  have hgC2 : m < w2.heap.size := s2.mb.lt
  obtain ⟨gC, hgC⟩ : ∃ g, g = w2.heap.size := ⟨_, rfl⟩
  rw [← hgC] at qN lN hgC0 hgC1 hgC2 ⊢
  have s3 := s2.below bN
  have t3 := t2.below bN
  have d3 : Below m w W := d2.trans (bN.mono (Nat.le_of_lt s2.mb.lt))
  have q3 := (bN.block _ lP2).trans q2
  have hgm4 := (s2.gt k g hk3 HG.out).1
  clear hgC rN bN b1 b2 s1 s2 t1 t2 d1 d2 q1 q2 lP1 lP2 lP rr h h0 t0 d0 HBA sv1
  obtain ⟨V, hV⟩ : ∃ V, V = W := ⟨_, rfl⟩
  rw [← hV] at s3 t3 d3 qN ⊢
  have s4 := s3
  have t4 := t3
  have d4 := d3
  have q4 := qN
  clear hV s3 t3 d3
  have HJ : Hid (MInv ⟨node, upN bid k (some { B with what := upN B.what s (some ⟨ck, cc, cs, cn5, cv⟩) }), rounds, ch⟩) := HI.out.ask hbk hs3 HC.out hw HW.out.1 HW.out.2
  have c37 : V.cell? ⟨m, 37, none⟩ = some (.bool true) := by rw [s4.mb.cell (by omega), s4.mf.fi]
  have f37 := s4.mb.frozen 37
  have O5 := Only.one V m 37 (.bool true)
  have B5 := s4.mb.one 37 (.bool true)
  have s5 := s4.turnM O5 B5 s4.mf.fine s4.ov
  have d5 := d4.trans (O5.below (Nat.le_refl _))
  have t5 := t4.low hm (O5.below (Nat.le_refl _))
  have q5 := (O5.other gC (by omega)).trans q4
  obtain ⟨g', hg', hba⟩ := s5.bd k hk3 B hbk
  obtain rfl : g' = g := Option.some.inj (hg'.symm.trans HG.out)
  obtain ⟨F, zs, hF, hBF, hV⟩ := hba
  have c12 := hF.cell (show 12 + s < 30 by omega)
  have f12 := hF.frozen (12 + s)
  have i12 := runIndexArr 59 4 3 1 Tryd.underlying59 boSize g' 12 s hs3
  rw [Nat.one_mul] at i12
  have O6 := Only.one (V.setCell ⟨m, 37, none⟩ (.bool true)) g' (12 + s) (.bool true)
  have B6 := hF.one (12 + s) (.bool true)
  have q6 := (O6.other gC (by omega)).trans q5
  clear hw
  go_wp2_with ((with_reducible (refine pxLook ?_)); first | (refine wpList_store_one rfl 4 (.tmp 70) _ rfl m 37 (.bool true) _ rfl rfl c37 f37 boSize rfl ?_) | (refine wpList_store_one rfl 4 (.tmp 75) _ rfl g' (12 + s) (.bool true) _ rfl rfl c12 f12 boSize rfl ?_))
  clear c37 f37 c12 f12 i12
  generalize (V.setCell ⟨m, 37, none⟩ (.bool true)).setCell ⟨g', 12 + s, none⟩ (.bool true) = V6 at O6 B6 q6 ⊢
  generalize V.setCell ⟨m, 37, none⟩ (.bool true) = V5 at s5 d5 t5 O6 hF hV
  clear O5 B5 q5 s4 t4 d4 q4
  (try simp only [Act.put])
  apply p_merge (fun W2 => ∃ (f1 : Nat → Value) (bid1 : Nat → Option Bid) (B1 : Bid), St W2 m ⟨node, bid1, rounds, ch⟩ f1 ys bs ∧ bid1 k = some B1 ∧ B1.what s = some ⟨ck, cc, cs, cn5, cv⟩ ∧ Hid (MInv ⟨node, bid1, rounds, ch⟩) ∧ Below m w W2)
  · intro K2 HK2
    refine wp_region_held (S := fun w' => Only g' V6 w') (by kernel_rfl) ?_
    have hS0 : (fun w' : World => Only g' V6 w') V6.drew := (Only.refl _ _).drew
    refine heldTake (i := 0) 76 (v := .pointer (some ⟨g', 0, none⟩)) rfl rfl (by kernel_rfl) (by kernel_rfl) (by kernel_rfl) (fun _ _ _ h => h) (Or.inl ⟨by rfl, fun _ _ => by kernel_rfl⟩) hS0 ?_
    simp only [Act.put, List.setIfInBounds_toArray, List.set_cons_zero, List.set_cons_succ]
    refine heldTake (i := 1) 77 (v := .int .i64 (s : Int)) rfl rfl (by kernel_rfl) (by kernel_rfl) (by kernel_rfl) (fun _ _ _ h => h) (Or.inl ⟨by rfl, fun _ _ => by kernel_rfl⟩) hS0 ?_
    simp only [Act.put, List.setIfInBounds_toArray, List.set_cons_zero, List.set_cons_succ]
    refine heldTake (i := 2) 78 (v := .agg #[.int .i64 ck, .int .i64 cc, .int .i64 cs, .int .i64 cn5, .int .i64 cv]) rfl rfl (by kernel_rfl) (by kernel_rfl) (by kernel_rfl) (fun _ _ _ h => h) (yieldRow (by rfl) 37 (.tmp 11) rfl gC rfl 37 _ (fun w' hw' => (hw'.other gC (by omega)).trans q6) Tryd.underlying37 rfl cmSize) hS0 ?_
    simp only [Act.put, List.setIfInBounds_toArray, List.set_cons_zero, List.set_cons_succ]
    refine heldTake (i := 3) 79 (v := .pointer (some ⟨g', 0, none⟩)) rfl rfl (by kernel_rfl) (by kernel_rfl) (by kernel_rfl) (fun _ _ _ h => h) (Or.inl ⟨by rfl, fun _ _ => by kernel_rfl⟩) hS0 ?_
    simp only [Act.put, List.setIfInBounds_toArray, List.set_cons_zero, List.set_cons_succ]
    refine heldTake (i := 4) 80 (v := .pointer (some ⟨g', 15, none⟩)) rfl rfl (by kernel_rfl) (by kernel_rfl) (by kernel_rfl) (fun _ _ _ h => h) (Or.inl ⟨by rfl, fun _ _ => by kernel_rfl⟩) hS0 ?_
    simp only [Act.put, List.setIfInBounds_toArray, List.set_cons_zero, List.set_cons_succ]
    refine heldTake (i := 5) 81 (v := .pointer (some ⟨g', 15 + 5 * s, none⟩)) rfl rfl (by kernel_rfl) (by kernel_rfl) (by kernel_rfl) (fun _ _ _ h => h) (yieldIndexArr (by rfl) 58 37 3 5 (.tmp 80) (.tmp 77) rfl Tryd.underlying58 cmSize g' 15 s (15 + 5 * s) hs3 (by omega) rfl rfl) hS0 ?_
    simp only [Act.put, List.setIfInBounds_toArray, List.set_cons_zero, List.set_cons_succ]
    have O7 : Only g' V6 (V6.drew.setCells g' (15 + 5 * s) (cmL ⟨ck, cc, cs, cn5, cv⟩)) := hS0.trans (Only.store _ _ _ _)
    have B7 : Blk (V6.drew.setCells g' (15 + 5 * s) (cmL ⟨ck, cc, cs, cn5, cv⟩)) g' 77 30 _ := (B6.keep (w' := V6.drew) rfl).store (15 + 5 * s) (cmL ⟨ck, cc, cs, cn5, cv⟩)
    refine heldOne (i := 6) (by kernel_rfl) (opStoreMid rfl (by kernel_rfl) rfl 37 (.tmp 81) (.tmp 78) rfl g' (15 + 5 * s) #[.int .i64 ck, .int .i64 cc, .int .i64 cs, .int .i64 cn5, .int .i64 cv] (by kernel_rfl) (by kernel_rfl) ((B6.keep (w' := V6.drew) rfl).there (by show 15 + 5 * s + 5 ≤ 30; omega)) cmSize (by simp [Value.oneCell']) ⟨O7, ?_⟩)
    have hba7 := BidAt.ask hF hBF hV (O6.trans O7) hs3 B7
    exact wpAnyH_done (by kernel_rfl) (HK2 _ ⟨_, _, _, s5.turnB hk3 HG.out hF (O6.trans O7) hba7, upN_at _ _ _, upN_at _ _ _, HJ, d5.trans ((O6.trans O7).below (Nat.le_of_lt hgm4))⟩) _
  · rintro V0 ⟨f9, bid9, B9, s9, hbk9, hw9, HI9, d9⟩
    have t9 := HT.out.low hm d9
    clear HI hbk HJ HW s5 d5 t5 O6 hF hBF hV B6 q6 hg' hgm4
    obtain ⟨g, rfl⟩ : ∃ g, g = g' := ⟨_, rfl⟩
    obtain ⟨f, rfl⟩ : ∃ f, f = f9 := ⟨_, rfl⟩
    obtain ⟨bid, rfl⟩ : ∃ bid, bid = bid9 := ⟨_, rfl⟩
    obtain ⟨B, rfl⟩ : ∃ B, B = B9 := ⟨_, rfl⟩
    have s0 := s9
    have HI := HI9
    have hbk := hbk9
    have hw := hw9
    have d0 := d9
    have t0 := t9
    clear s9 HI9 hbk9 hw9 d9 t9
    obtain ⟨c, hcc⟩ : ∃ c : Cmd, c = ⟨ck, cc, cs, cn5, cv⟩ := ⟨_, rfl⟩
    rw [← hcc] at hw
    clear hcc
    have HBA : Hid (BidAt V0 g B) := by
      obtain ⟨g', hg', hba⟩ := s0.bd k hk3 B hbk
      obtain rfl : g' = g := Option.some.inj (hg'.symm.trans HG.out)
      exact hba
    have hml := s0.mb.lt
    have hgl := (s0.gt k g hk3 HG.out).2
    have hra := s0.nodeAt hn5
    have hrb := HBA.out.balAt
    have hL40 := (s0.ov n hn5).2
    have hsv : Sv V0 (ys n) (node n).vs := Sv.ofOwns (s0.ov n hn5).1 (by have := hL40; simp only at this; omega)
    simp only at hra hL40
    have hrw := HBA.out.whatAt hs3 hw
    have hgm3 := (s0.gt k g hk3 HG.out).1
    obtain ⟨P1, hP1⟩ : ∃ P1, accP (node n) (⟨(s : Int), B.bal, c⟩ : Vt) = P1 := ⟨_, rfl⟩
    obtain ⟨L1, hL1⟩ : ∃ L1, accL (node n) (⟨(s : Int), B.bal, c⟩ : Vt) = L1 := ⟨_, rfl⟩
    obtain ⟨E1, hE1⟩ : ∃ E1, votE (node n) (⟨(s : Int), B.bal, c⟩ : Vt) = E1 := ⟨_, rfl⟩
    obtain ⟨qr, qn⟩ := P1
    have HP1 : Hid (accP (node n) (⟨(s : Int), B.bal, c⟩ : Vt) = ⟨qr, qn⟩ ∧ accL (node n) (⟨(s : Int), B.bal, c⟩ : Vt) = L1 ∧ votE (node n) (⟨(s : Int), B.bal, c⟩ : Vt) = E1) := ⟨hP1, hL1, hE1⟩
    obtain ⟨K1, hK1⟩ : ∃ K1, L1.length = K1 := ⟨_, rfl⟩
    have HK1 : Hid (L1.length = K1) := hK1
    clear hP1 hL1 hE1 hK1
    go_wp2_with fail
    apply p_mergeG4 (fun gA gy cy W2 => W2.heap[gA]? = some (.cells #[.int .i64 qr, .int .i64 qn, .slice gy K1 cy] 26) ∧ Ov W2 (.slice gy K1 cy) L1 ∧ L1.length ≤ 40 ∧ Below V0.heap.size V0 W2 ∧ V0.heap.size ≤ gA)
    · intro K2 HK2
      have ed : Below V0.heap.size V0 V0.drew := (Below.refl _ _).drew
      refine wp_region_held (S := fun w' => Below V0.heap.size V0 w') (by kernel_rfl) ?_
      refine heldTake (i := 0) 83 (v := .pointer (some ⟨m, 0, none⟩)) rfl rfl (by kernel_rfl) (by kernel_rfl) (by kernel_rfl) (fun _ _ _ h => h) (Or.inl ⟨by rfl, fun _ _ => by kernel_rfl⟩) ed ?_
      simp only [Act.put, List.setIfInBounds_toArray, List.set_cons_zero, List.set_cons_succ]
      refine heldTake (i := 1) 84 (v := .int .i64 (n : Int)) rfl rfl (by kernel_rfl) (by kernel_rfl) (by kernel_rfl) (fun _ _ _ h => h) (Or.inl ⟨by rfl, fun _ _ => by kernel_rfl⟩) ed ?_
      simp only [Act.put, List.setIfInBounds_toArray, List.set_cons_zero, List.set_cons_succ]
      refine heldTake (i := 2) 85 (v := .pointer (some ⟨m, 0, none⟩)) rfl rfl (by kernel_rfl) (by kernel_rfl) (by kernel_rfl) (fun _ _ _ h => h) (Or.inl ⟨by rfl, fun _ _ => by kernel_rfl⟩) ed ?_
      simp only [Act.put, List.setIfInBounds_toArray, List.set_cons_zero, List.set_cons_succ]
      refine heldTake (i := 3) 86 (v := .pointer (some ⟨m, 0, none⟩)) rfl rfl (by kernel_rfl) (by kernel_rfl) (by kernel_rfl) (fun _ _ _ h => h) (Or.inl ⟨by rfl, fun _ _ => by kernel_rfl⟩) ed ?_
      simp only [Act.put, List.setIfInBounds_toArray, List.set_cons_zero, List.set_cons_succ]
      refine heldTake (i := 4) 87 (v := .pointer (some ⟨m, 3 * n, none⟩)) rfl rfl (by kernel_rfl) (by kernel_rfl) (by kernel_rfl) (fun _ _ _ h => h) (yieldIndexArr (by rfl) 55 26 5 3 (.tmp 86) (.tmp 84) rfl Tryd.underlying55 ac3k m 0 n (3 * n) hn5 (by omega) rfl rfl) ed ?_
      simp only [Act.put, List.setIfInBounds_toArray, List.set_cons_zero, List.set_cons_succ]
      refine heldTake (i := 5) 88 (v := .agg (acA (node n).p (ys n))) rfl rfl (by kernel_rfl) (by kernel_rfl) (by kernel_rfl) (fun _ _ _ h => h) (yieldsIf_load_mid (by rfl) 26 (.tmp 87) rfl m (3 * n) rfl [.int .i64 (node n).p.r, .int .i64 (node n).p.n, ys n] _ (fun w' hw' => pRange hw' hml hra) Tryd.underlying26 rfl ac3k) ed ?_
      simp only [Act.put, List.setIfInBounds_toArray, List.set_cons_zero, List.set_cons_succ]
      refine heldTake (i := 6) 89 (v := .int .i64 (s : Int)) rfl rfl (by kernel_rfl) (by kernel_rfl) (by kernel_rfl) (fun _ _ _ h => h) (Or.inl ⟨by rfl, fun _ _ => by kernel_rfl⟩) ed ?_
      simp only [Act.put, List.setIfInBounds_toArray, List.set_cons_zero, List.set_cons_succ]
      refine heldTake (i := 7) 90 (v := .pointer (some ⟨g, 0, none⟩)) rfl rfl (by kernel_rfl) (by kernel_rfl) (by kernel_rfl) (fun _ _ _ h => h) (Or.inl ⟨by rfl, fun _ _ => by kernel_rfl⟩) ed ?_
      simp only [Act.put, List.setIfInBounds_toArray, List.set_cons_zero, List.set_cons_succ]
      refine heldTake (i := 8) 91 (v := .pointer (some ⟨g, 0, none⟩)) rfl rfl (by kernel_rfl) (by kernel_rfl) (by kernel_rfl) (fun _ _ _ h => h) (Or.inl ⟨by rfl, fun _ _ => by kernel_rfl⟩) ed ?_
      simp only [Act.put, List.setIfInBounds_toArray, List.set_cons_zero, List.set_cons_succ]
      refine heldTake (i := 9) 92 (v := .pointer (some ⟨g, 0, none⟩)) rfl rfl (by kernel_rfl) (by kernel_rfl) (by kernel_rfl) (fun _ _ _ h => h) (Or.inl ⟨by rfl, fun _ _ => by kernel_rfl⟩) ed ?_
      simp only [Act.put, List.setIfInBounds_toArray, List.set_cons_zero, List.set_cons_succ]
      refine heldTake (i := 10) 93 (v := .agg (baA B.bal)) rfl rfl (by kernel_rfl) (by kernel_rfl) (by kernel_rfl) (fun _ _ _ h => h) (yieldsIf_load_mid (by rfl) 23 (.tmp 92) rfl g (0) rfl [.int .i64 B.bal.r, .int .i64 B.bal.n] _ (fun w' hw' => pRange hw' hgl hrb) Tryd.underlying23 rfl baSize) ed ?_
      simp only [Act.put, List.setIfInBounds_toArray, List.set_cons_zero, List.set_cons_succ]
      refine heldTake (i := 11) 94 (v := .pointer (some ⟨g, 0, none⟩)) rfl rfl (by kernel_rfl) (by kernel_rfl) (by kernel_rfl) (fun _ _ _ h => h) (Or.inl ⟨by rfl, fun _ _ => by kernel_rfl⟩) ed ?_
      simp only [Act.put, List.setIfInBounds_toArray, List.set_cons_zero, List.set_cons_succ]
      refine heldTake (i := 12) 95 (v := .int .i64 (s : Int)) rfl rfl (by kernel_rfl) (by kernel_rfl) (by kernel_rfl) (fun _ _ _ h => h) (Or.inl ⟨by rfl, fun _ _ => by kernel_rfl⟩) ed ?_
      simp only [Act.put, List.setIfInBounds_toArray, List.set_cons_zero, List.set_cons_succ]
      refine heldTake (i := 13) 96 (v := .pointer (some ⟨g, 0, none⟩)) rfl rfl (by kernel_rfl) (by kernel_rfl) (by kernel_rfl) (fun _ _ _ h => h) (Or.inl ⟨by rfl, fun _ _ => by kernel_rfl⟩) ed ?_
      simp only [Act.put, List.setIfInBounds_toArray, List.set_cons_zero, List.set_cons_succ]
      refine heldTake (i := 14) 97 (v := .pointer (some ⟨g, 15, none⟩)) rfl rfl (by kernel_rfl) (by kernel_rfl) (by kernel_rfl) (fun _ _ _ h => h) (Or.inl ⟨by rfl, fun _ _ => by kernel_rfl⟩) ed ?_
      simp only [Act.put, List.setIfInBounds_toArray, List.set_cons_zero, List.set_cons_succ]
      refine heldTake (i := 15) 98 (v := .pointer (some ⟨g, 15 + 5 * s, none⟩)) rfl rfl (by kernel_rfl) (by kernel_rfl) (by kernel_rfl) (fun _ _ _ h => h) (yieldIndexArr (by rfl) 58 37 3 5 (.tmp 97) (.tmp 95) rfl Tryd.underlying58 cmSize g 15 s (15 + 5 * s) hs3 (by omega) rfl rfl) ed ?_
      simp only [Act.put, List.setIfInBounds_toArray, List.set_cons_zero, List.set_cons_succ]
      refine heldTake (i := 16) 99 (v := .agg (cmC c)) rfl rfl (by kernel_rfl) (by kernel_rfl) (by kernel_rfl) (fun _ _ _ h => h) (yieldsIf_load_mid (by rfl) 37 (.tmp 98) rfl g (15 + 5 * s) rfl (cmL c) _ (fun w' hw' => pRange hw' hgl hrw) Tryd.underlying37 rfl cmSize) ed ?_
      simp only [Act.put, List.setIfInBounds_toArray, List.set_cons_zero, List.set_cons_succ]
      refine heldTake (i := 17) 100 (v := .agg #[.int .i64 (s : Int), .int .i64 B.bal.r, .int .i64 B.bal.n, .int .i64 c.k, .int .i64 c.c, .int .i64 c.s, .int .i64 c.n, .int .i64 c.v]) rfl rfl (by kernel_rfl) (by kernel_rfl) (by kernel_rfl) (fun _ _ _ h => h) (Or.inl ⟨by rfl, fun _ _ => by kernel_rfl⟩) ed ?_
      simp only [Act.put, List.setIfInBounds_toArray, List.set_cons_zero, List.set_cons_succ]
      refine heldTwo (i := 18) (i' := 22) (by kernel_rfl) ?_ ?_
      · refine (opCall (i := 18) (d := 101) (f := 16) (args := #[.agg (acA (node n).p (ys n)), .agg #[.int .i64 (s : Int), .int .i64 B.bal.r, .int .i64 B.bal.n, .int .i64 c.k, .int .i64 c.c, .int .i64 c.s, .int .i64 c.n, .int .i64 c.v]]) rfl (by kernel_rfl) rfl (by kernel_rfl) ((accept_own (node n).p (ys n) (node n).vs ⟨(s : Int), B.bal, c⟩ _ (hsv.below ed) (t0.below ed)).mono ?_))
        rintro e' wc1 ⟨y5, rfl, oy5, n5, bc1⟩
        have ec1 : Below V0.heap.size V0 wc1 := ed.trans (bc1.mono ed.size)
        rw [show accP ⟨(node n).p, (node n).vs⟩ ⟨(s : Int), B.bal, c⟩ = ⟨qr, qn⟩ from HP1.out.1, show votE ⟨(node n).p, (node n).vs⟩ ⟨(s : Int), B.bal, c⟩ = E1 from HP1.out.2.2]
        rw [show accL ⟨(node n).p, (node n).vs⟩ ⟨(s : Int), B.bal, c⟩ = L1 from HP1.out.2.1] at oy5 n5
        obtain ⟨gy, cy, hy5⟩ := ownsV_shape oy5
        rw [HK1.out] at hy5
        subst hy5
        have oy := Ov.of oy5
        simp only [acA]
        refine ⟨_, rfl, ec1, ?_⟩
        simp only [Act.put, List.setIfInBounds_toArray, List.set_cons_zero, List.set_cons_succ]
        refine heldTake (i := 19) 82 (v := .tuple #[.agg #[.int .i64 qr, .int .i64 qn, .slice gy K1 cy], .int .i64 E1]) rfl rfl (by kernel_rfl) (by kernel_rfl) (by kernel_rfl) (fun _ _ _ h => h) (Or.inl ⟨by rfl, fun _ _ => by kernel_rfl⟩) ec1 ?_
        simp only [Act.put, List.setIfInBounds_toArray, List.set_cons_zero, List.set_cons_succ]
        refine heldTake (i := 20) 102 (v := .agg #[.int .i64 qr, .int .i64 qn, .slice gy K1 cy]) rfl rfl (by kernel_rfl) (by kernel_rfl) (by kernel_rfl) (fun _ _ _ h => h) (Or.inl ⟨by rfl, fun _ _ => by kernel_rfl⟩) ec1 ?_
        simp only [Act.put, List.setIfInBounds_toArray, List.set_cons_zero, List.set_cons_succ]
        refine heldTake (i := 21) 103 (v := .int .i64 E1) rfl rfl (by kernel_rfl) (by kernel_rfl) (by kernel_rfl) (fun _ _ _ h => h) (Or.inl ⟨by rfl, fun _ _ => by kernel_rfl⟩) ec1 ?_
        simp only [Act.put, List.setIfInBounds_toArray, List.set_cons_zero, List.set_cons_succ]
        obtain ⟨gv2, hgv2⟩ : ∃ g, g = wc1.heap.size := ⟨_, rfl⟩
        have aG2 : Below wc1.heap.size wc1 (wc1.alloc (.cells #[.int .i64 0, .int .i64 0, .slice none 0 0] 26)) := (Below.refl _ _).alloc (Nat.le_refl _) _
        have eG2 : Below V0.heap.size V0 (wc1.alloc (.cells #[.int .i64 0, .int .i64 0, .slice none 0 0] 26)) := ec1.trans (aG2.mono ec1.size)
        have rG2 : (wc1.alloc (.cells #[.int .i64 0, .int .i64 0, .slice none 0 0] 26)).heap[gv2]? = some (.cells #[.int .i64 0, .int .i64 0, .slice none 0 0] 26) := by rw [hgv2]; exact heap_alloc_new _ _
        have hgle2 : V0.heap.size ≤ gv2 := by rw [hgv2]; exact ec1.size
        refine heldOne (i := 22) (by kernel_rfl) (opRun (i := 22) (d := 14) (v := .pointer (some ⟨gv2, 0, none⟩)) (w' := wc1.alloc (.cells #[.int .i64 0, .int .i64 0, .slice none 0 0] 26)) rfl (by kernel_rfl) rfl (by rw [hgv2]; kernel_rfl) ⟨eG2, ?_⟩)
        simp only [Act.put, List.setIfInBounds_toArray, List.set_cons_zero, List.set_cons_succ]
        have oy3 := oy.below aG2
        refine heldOne (i := 23) (by kernel_rfl) (opStore (i := 23) rfl (by kernel_rfl) rfl 26 (.tmp 14) (.tmp 102) rfl gv2 #[.int .i64 qr, .int .i64 qn, .slice gy K1 cy] (by kernel_rfl) (by kernel_rfl) 26 _ rG2 ac3k rfl (by simp [Value.oneCell']) ⟨oBelow_rowP eG2 hgle2 _, ?_⟩)
        have eS4 := oBelow_rowP eG2 hgle2 (#[.int .i64 qr, .int .i64 qn, .slice gy K1 cy])
        have rS4 := setRow_heap _ gv2 _ (#[.int .i64 qr, .int .i64 qn, .slice gy K1 cy]) 26 _ rG2
        have oy35 := Ov.otherRow oy3 rG2 ballotNe (#[.int .i64 qr, .int .i64 qn, .slice gy K1 cy])
        refine heldTake (i := 24) 15 (v := .int .i64 E1) rfl rfl (by kernel_rfl) (by kernel_rfl) (by kernel_rfl) (fun _ _ _ h => h) (Or.inl ⟨by rfl, fun _ _ => by kernel_rfl⟩) eS4 ?_
        simp only [Act.put, List.setIfInBounds_toArray, List.set_cons_zero, List.set_cons_succ]
        exact wpAnyH_done (by kernel_rfl) (HK2.out gv2 gy cy _ ⟨rS4, oy35, n5, eS4, hgle2⟩) _
      · obtain ⟨gv6, hgv6⟩ : ∃ g, g = V0.drew.heap.size := ⟨_, rfl⟩
        have aG6 : Below V0.drew.heap.size V0.drew (V0.drew.alloc (.cells #[.int .i64 0, .int .i64 0, .slice none 0 0] 26)) := (Below.refl _ _).alloc (Nat.le_refl _) _
        have eG6 : Below V0.heap.size V0 (V0.drew.alloc (.cells #[.int .i64 0, .int .i64 0, .slice none 0 0] 26)) := ed.trans (aG6.mono ed.size)
        have rG6 : (V0.drew.alloc (.cells #[.int .i64 0, .int .i64 0, .slice none 0 0] 26)).heap[gv6]? = some (.cells #[.int .i64 0, .int .i64 0, .slice none 0 0] 26) := by rw [hgv6]; exact heap_alloc_new _ _
        have hgle6 : V0.heap.size ≤ gv6 := by rw [hgv6]; exact ed.size
        refine (opRun (i := 22) (d := 14) (v := .pointer (some ⟨gv6, 0, none⟩)) (w' := V0.drew.alloc (.cells #[.int .i64 0, .int .i64 0, .slice none 0 0] 26)) rfl (by kernel_rfl) rfl (by rw [hgv6]; kernel_rfl) ⟨eG6, ?_⟩)
        simp only [Act.put, List.setIfInBounds_toArray, List.set_cons_zero, List.set_cons_succ]
        refine heldOne (i := 18) (by kernel_rfl) (opCall (i := 18) (d := 101) (f := 16) (args := #[.agg (acA (node n).p (ys n)), .agg #[.int .i64 (s : Int), .int .i64 B.bal.r, .int .i64 B.bal.n, .int .i64 c.k, .int .i64 c.c, .int .i64 c.s, .int .i64 c.n, .int .i64 c.v]]) rfl (by kernel_rfl) rfl (by kernel_rfl) ((accept_own (node n).p (ys n) (node n).vs ⟨(s : Int), B.bal, c⟩ _ (hsv.below eG6) (t0.below eG6)).mono ?_))
        rintro e' wc7 ⟨y5, rfl, oy5, n5, bc7⟩
        have ec7 : Below V0.heap.size V0 wc7 := eG6.trans (bc7.mono eG6.size)
        rw [show accP ⟨(node n).p, (node n).vs⟩ ⟨(s : Int), B.bal, c⟩ = ⟨qr, qn⟩ from HP1.out.1, show votE ⟨(node n).p, (node n).vs⟩ ⟨(s : Int), B.bal, c⟩ = E1 from HP1.out.2.2]
        rw [show accL ⟨(node n).p, (node n).vs⟩ ⟨(s : Int), B.bal, c⟩ = L1 from HP1.out.2.1] at oy5 n5
        obtain ⟨gy, cy, hy5⟩ := ownsV_shape oy5
        rw [HK1.out] at hy5
        subst hy5
        have oy := Ov.of oy5
        simp only [acA]
        have rg7 := (bc7.block _ (Array.getElem?_eq_some_iff.1 rG6).1).trans rG6
        refine ⟨_, rfl, ec7, ?_⟩
        simp only [Act.put, List.setIfInBounds_toArray, List.set_cons_zero, List.set_cons_succ]
        refine heldTake (i := 19) 82 (v := .tuple #[.agg #[.int .i64 qr, .int .i64 qn, .slice gy K1 cy], .int .i64 E1]) rfl rfl (by kernel_rfl) (by kernel_rfl) (by kernel_rfl) (fun _ _ _ h => h) (Or.inl ⟨by rfl, fun _ _ => by kernel_rfl⟩) ec7 ?_
        simp only [Act.put, List.setIfInBounds_toArray, List.set_cons_zero, List.set_cons_succ]
        refine heldTake (i := 20) 102 (v := .agg #[.int .i64 qr, .int .i64 qn, .slice gy K1 cy]) rfl rfl (by kernel_rfl) (by kernel_rfl) (by kernel_rfl) (fun _ _ _ h => h) (Or.inl ⟨by rfl, fun _ _ => by kernel_rfl⟩) ec7 ?_
        simp only [Act.put, List.setIfInBounds_toArray, List.set_cons_zero, List.set_cons_succ]
        refine heldTake (i := 21) 103 (v := .int .i64 E1) rfl rfl (by kernel_rfl) (by kernel_rfl) (by kernel_rfl) (fun _ _ _ h => h) (Or.inl ⟨by rfl, fun _ _ => by kernel_rfl⟩) ec7 ?_
        simp only [Act.put, List.setIfInBounds_toArray, List.set_cons_zero, List.set_cons_succ]
        refine heldOne (i := 23) (by kernel_rfl) (opStore (i := 23) rfl (by kernel_rfl) rfl 26 (.tmp 14) (.tmp 102) rfl gv6 #[.int .i64 qr, .int .i64 qn, .slice gy K1 cy] (by kernel_rfl) (by kernel_rfl) 26 _ rg7 ac3k rfl (by simp [Value.oneCell']) ⟨oBelow_rowP ec7 hgle6 _, ?_⟩)
        have eS8 := oBelow_rowP ec7 hgle6 (#[.int .i64 qr, .int .i64 qn, .slice gy K1 cy])
        have rS8 := setRow_heap _ gv6 _ (#[.int .i64 qr, .int .i64 qn, .slice gy K1 cy]) 26 _ rg7
        have oy9 := Ov.otherRow oy rg7 ballotNe (#[.int .i64 qr, .int .i64 qn, .slice gy K1 cy])
        refine heldTake (i := 24) 15 (v := .int .i64 E1) rfl rfl (by kernel_rfl) (by kernel_rfl) (by kernel_rfl) (fun _ _ _ h => h) (Or.inl ⟨by rfl, fun _ _ => by kernel_rfl⟩) eS8 ?_
        simp only [Act.put, List.setIfInBounds_toArray, List.set_cons_zero, List.set_cons_succ]
        exact wpAnyH_done (by kernel_rfl) (HK2.out gv6 gy cy _ ⟨rS8, oy9, n5, eS8, hgle6⟩) _
    · rintro gA gy cy V ⟨qA, oy, hVL0, bV, hgA⟩
      have s1 := s0.below bV
      have d1 : Below m w V := d0.trans (bV.mono (Nat.le_of_lt hml))
      have t1 := t0.below bV
      have hrg := pRange bV hgl hrb
      rcases vot_two (HI.out.acc hn5) (HI.out.vtMay hbk hw) with ⟨f1, f2, f3, f4⟩ | ⟨f1, f2, f3, f4⟩
      · have e1 : E1 = 7 := by rw [← HP1.out.2.2]; exact f1
        subst e1
        clear f1 f2 f3 f4 HP1 HK1
        go_wp2
        (try simp only [Exit.inBlock, Exit.then])
        refine bodyPost_ret (results_none rfl _ _ _) rfl ?_
        exact ⟨rfl, _, _, _, _, s1, HI.out, by show rounds ≤ rounds + 1; omega, d1⟩
      · have e1 : E1 = 0 := by rw [← HP1.out.2.2]; exact f1
        have e2 : (⟨qr, qn⟩ : Bal) = B.bal := by rw [← HP1.out.1]; exact f2
        have e3 : L1 = (insV (node n).vs ⟨(s : Int), B.bal, c⟩) := by rw [← HP1.out.2.1]; exact f3
        obtain rfl : qr = B.bal.r := by rw [← e2]
        obtain rfl : qn = B.bal.n := by rw [← e2]
        subst e1
        rw [e3] at oy hVL0
        have HJ : Hid (MInv ⟨upN node n ⟨B.bal, (insV (node n).vs ⟨(s : Int), B.bal, c⟩)⟩, bid, rounds, ch⟩) := HI.out.vote hbk hn5 hw f4
        have hVL : (insV (node n).vs ⟨(s : Int), B.bal, c⟩).length ≤ 40 := hVL0
        have hrA : V.rangeAt gA 0 [.int .i64 B.bal.r, .int .i64 B.bal.n] := range2 (cell_of_row _ _ 0 _ _ _ qA) (cell_of_row _ _ 1 _ _ _ qA)
        clear f1 f2 f3 f4 HP1 HK1 e2 e3 hVL0
        go_wp2_with fail
        have cF : V.cell? ⟨m, 37, none⟩ = some (.bool true) := by rw [s1.mb.cell (by omega), s1.mf.fi]
        have heb := eql_bal B.bal.r B.bal.n B.bal.r B.bal.n
        rw [decide_eq_true ⟨rfl, rfl⟩] at heb
        apply p_merge (fun W2 => Only m V W2 ∧ St W2 m ⟨node, bid, rounds, ch⟩ (updF f 37 [.bool true]) ys bs)
        · intro K2 HK2
          refine wp_region_held (S := fun w' => w'.cell? ⟨m, 37, none⟩ = some (.bool true) ∧ Only m V w') (by kernel_rfl) ?_
          have hS0 : (fun w' : World => w'.cell? ⟨m, 37, none⟩ = some (.bool true) ∧ Only m V w') V.drew := ⟨cF, (Only.refl _ _).drew⟩
          refine heldTake (i := 0) 106 (v := .pointer (some ⟨m, 0, none⟩)) rfl rfl (by kernel_rfl) (by kernel_rfl) (by kernel_rfl) (fun _ _ _ h => h) (Or.inl ⟨by rfl, fun _ _ => by kernel_rfl⟩) hS0 ?_
          simp only [Act.put, List.setIfInBounds_toArray, List.set_cons_zero, List.set_cons_succ]
          refine heldTake (i := 1) 107 (v := .pointer (some ⟨m, 0, none⟩)) rfl rfl (by kernel_rfl) (by kernel_rfl) (by kernel_rfl) (fun _ _ _ h => h) (Or.inl ⟨by rfl, fun _ _ => by kernel_rfl⟩) hS0 ?_
          simp only [Act.put, List.setIfInBounds_toArray, List.set_cons_zero, List.set_cons_succ]
          refine heldTake (i := 2) 108 (v := .pointer (some ⟨m, 0, none⟩)) rfl rfl (by kernel_rfl) (by kernel_rfl) (by kernel_rfl) (fun _ _ _ h => h) (Or.inl ⟨by rfl, fun _ _ => by kernel_rfl⟩) hS0 ?_
          simp only [Act.put, List.setIfInBounds_toArray, List.set_cons_zero, List.set_cons_succ]
          refine heldTake (i := 3) 109 (v := .pointer (some ⟨m, 37, none⟩)) rfl rfl (by kernel_rfl) (by kernel_rfl) (by kernel_rfl) (fun _ _ _ h => h) (Or.inl ⟨by rfl, fun _ _ => by kernel_rfl⟩) hS0 ?_
          simp only [Act.put, List.setIfInBounds_toArray, List.set_cons_zero, List.set_cons_succ]
          refine heldTake (i := 4) 110 (v := .bool true) rfl rfl (by kernel_rfl) (by kernel_rfl) (by kernel_rfl) (fun _ _ _ h => h) (yieldCell (by rfl) 4 (.tmp 109) rfl _ Tryd.underlying4 rfl ⟨m, 37, none⟩ rfl (.bool true) (fun w' hw' => hw'.1)) hS0 ?_
          simp only [Act.put, List.setIfInBounds_toArray, List.set_cons_zero, List.set_cons_succ]
          refine heldTake (i := 5) 111 (v := .bool true) rfl rfl (by kernel_rfl) (by kernel_rfl) (by kernel_rfl) (fun _ _ _ h => h) (Or.inl ⟨by rfl, fun _ _ => by kernel_rfl⟩) hS0 ?_
          simp only [Act.put, List.setIfInBounds_toArray, List.set_cons_zero, List.set_cons_succ]
          refine heldTake (i := 6) 112 (v := .int .i64 0) rfl rfl (by kernel_rfl) (by kernel_rfl) (by kernel_rfl) (fun _ _ _ h => h) (Or.inl ⟨by rfl, fun _ _ => by kernel_rfl⟩) hS0 ?_
          simp only [Act.put, List.setIfInBounds_toArray, List.set_cons_zero, List.set_cons_succ]
          refine heldTake (i := 7) 113 (v := .bool true) rfl rfl (by kernel_rfl) (by kernel_rfl) (by kernel_rfl) (fun _ _ _ h => h) (Or.inl ⟨by rfl, fun _ _ => by kernel_rfl⟩) hS0 ?_
          simp only [Act.put, List.setIfInBounds_toArray, List.set_cons_zero, List.set_cons_succ]
          refine heldTake (i := 8) 114 (v := .bool true) rfl rfl (by kernel_rfl) (by kernel_rfl) (by kernel_rfl) (fun _ _ _ h => h) (Or.inl ⟨by rfl, fun _ _ => by kernel_rfl⟩) hS0 ?_
          simp only [Act.put, List.setIfInBounds_toArray, List.set_cons_zero, List.set_cons_succ]
          refine heldTake (i := 9) 115 (v := .bool true) rfl rfl (by kernel_rfl) (by kernel_rfl) (by kernel_rfl) (fun _ _ _ h => h) (Or.inl ⟨by rfl, fun _ _ => by kernel_rfl⟩) hS0 ?_
          simp only [Act.put, List.setIfInBounds_toArray, List.set_cons_zero, List.set_cons_succ]
          refine heldTake (i := 10) 116 (v := .pointer (some ⟨gA, 0, none⟩)) rfl rfl (by kernel_rfl) (by kernel_rfl) (by kernel_rfl) (fun _ _ _ h => h) (Or.inl ⟨by rfl, fun _ _ => by kernel_rfl⟩) hS0 ?_
          simp only [Act.put, List.setIfInBounds_toArray, List.set_cons_zero, List.set_cons_succ]
          refine heldTake (i := 11) 117 (v := .agg (baA B.bal)) rfl rfl (by kernel_rfl) (by kernel_rfl) (by kernel_rfl) (fun _ _ _ h => h) (yieldsIf_load_mid (by rfl) 23 (.tmp 116) rfl gA (0) rfl [.int .i64 B.bal.r, .int .i64 B.bal.n] _ (fun w' hw' => onlyRange hw'.2 (by omega) hrA) Tryd.underlying23 rfl baSize) hS0 ?_
          simp only [Act.put, List.setIfInBounds_toArray, List.set_cons_zero, List.set_cons_succ]
          refine heldTake (i := 12) 118 (v := .pointer (some ⟨g, 0, none⟩)) rfl rfl (by kernel_rfl) (by kernel_rfl) (by kernel_rfl) (fun _ _ _ h => h) (Or.inl ⟨by rfl, fun _ _ => by kernel_rfl⟩) hS0 ?_
          simp only [Act.put, List.setIfInBounds_toArray, List.set_cons_zero, List.set_cons_succ]
          refine heldTake (i := 13) 119 (v := .pointer (some ⟨g, 0, none⟩)) rfl rfl (by kernel_rfl) (by kernel_rfl) (by kernel_rfl) (fun _ _ _ h => h) (Or.inl ⟨by rfl, fun _ _ => by kernel_rfl⟩) hS0 ?_
          simp only [Act.put, List.setIfInBounds_toArray, List.set_cons_zero, List.set_cons_succ]
          refine heldTake (i := 14) 120 (v := .pointer (some ⟨g, 0, none⟩)) rfl rfl (by kernel_rfl) (by kernel_rfl) (by kernel_rfl) (fun _ _ _ h => h) (Or.inl ⟨by rfl, fun _ _ => by kernel_rfl⟩) hS0 ?_
          simp only [Act.put, List.setIfInBounds_toArray, List.set_cons_zero, List.set_cons_succ]
          refine heldTake (i := 15) 121 (v := .agg (baA B.bal)) rfl rfl (by kernel_rfl) (by kernel_rfl) (by kernel_rfl) (fun _ _ _ h => h) (yieldsIf_load_mid (by rfl) 23 (.tmp 120) rfl g (0) rfl [.int .i64 B.bal.r, .int .i64 B.bal.n] _ (fun w' hw' => onlyRange hw'.2 (by omega) hrg) Tryd.underlying23 rfl baSize) hS0 ?_
          simp only [Act.put, List.setIfInBounds_toArray, List.set_cons_zero, List.set_cons_succ]
          refine heldTake (i := 16) 122 (v := .bool true) rfl rfl (by kernel_rfl) (by kernel_rfl) (by kernel_rfl) (fun _ _ _ h => h) (yieldBin (by rfl) .eql 23 23 (.tmp 117) (.tmp 121) rfl _ _ _ rfl rfl (fun _ => by kernel_rfl) heb) hS0 ?_
          simp only [Act.put, List.setIfInBounds_toArray, List.set_cons_zero, List.set_cons_succ]
          refine heldTake (i := 17) 123 (v := .bool true) rfl rfl (by kernel_rfl) (by kernel_rfl) (by kernel_rfl) (fun _ _ _ h => h) (Or.inl ⟨by rfl, fun _ _ => by kernel_rfl⟩) hS0 ?_
          simp only [Act.put, List.setIfInBounds_toArray, List.set_cons_zero, List.set_cons_succ]
          refine heldTake (i := 18) 124 (v := .pointer (some ⟨m, 0, none⟩)) rfl rfl (by kernel_rfl) (by kernel_rfl) (by kernel_rfl) (fun _ _ _ h => h) (Or.inl ⟨by rfl, fun _ _ => by kernel_rfl⟩) hS0 ?_
          simp only [Act.put, List.setIfInBounds_toArray, List.set_cons_zero, List.set_cons_succ]
          refine heldTake (i := 19) 125 (v := .pointer (some ⟨m, 37, none⟩)) rfl rfl (by kernel_rfl) (by kernel_rfl) (by kernel_rfl) (fun _ _ _ h => h) (Or.inl ⟨by rfl, fun _ _ => by kernel_rfl⟩) hS0 ?_
          simp only [Act.put, List.setIfInBounds_toArray, List.set_cons_zero, List.set_cons_succ]
          have O1 : Only m V (V.drew.setCell ⟨m, 37, none⟩ (.bool true)) := ((Only.refl m V).drew).trans (Only.one _ _ _ _)
          have B1 : Blk (V.drew.setCell ⟨m, 37, none⟩ (.bool true)) m 61 38 _ := (s1.mb.keep (w' := V.drew) rfl).one 37 (.bool true)
          refine heldOne (i := 20) (by kernel_rfl) (opStoreOne rfl (by kernel_rfl) rfl 4 (.tmp 125) (.tmp 123) rfl m 37 (.bool true) _ (by kernel_rfl) (by kernel_rfl) cF (s1.mb.frozen 37) boSize rfl ⟨⟨World.cell?_setCell_same _ _ _ cF, O1⟩, ?_⟩)
          exact wpAnyH_done (by kernel_rfl) (HK2 _ ⟨O1, s1.turnM O1 B1 s1.mf.fine s1.ov⟩) _
        · rintro V1 ⟨oF, s2⟩
          have qA2 := (oF.other gA (by omega)).trans qA
          have oyF := Ov.only s1.mb mtNe oF oy
          go_wp2_with fail
          apply p_mergeI0 (fun W2 => Only m V1 W2 ∧ St W2 m ⟨upN node n ⟨B.bal, (insV (node n).vs ⟨(s : Int), B.bal, c⟩)⟩, bid, rounds, ch⟩ (updF (updF f 37 [.bool true]) (3 * n) [.int .i64 B.bal.r, .int .i64 B.bal.n, .slice gy K1 cy]) (upN ys n (.slice gy K1 cy)) bs)
          · intro K2 HK2
            refine wp_region_held (S := fun w' => Only m V1 w') (by kernel_rfl) ?_
            have hS0 : (fun w' : World => Only m V1 w') V1.drew := (Only.refl _ _).drew
            refine heldTake (i := 0) 126 (v := .pointer (some ⟨m, 0, none⟩)) rfl rfl (by kernel_rfl) (by kernel_rfl) (by kernel_rfl) (fun _ _ _ h => h) (Or.inl ⟨by rfl, fun _ _ => by kernel_rfl⟩) hS0 ?_
            simp only [Act.put, List.setIfInBounds_toArray, List.set_cons_zero, List.set_cons_succ]
            refine heldTake (i := 1) 127 (v := .int .i64 (n : Int)) rfl rfl (by kernel_rfl) (by kernel_rfl) (by kernel_rfl) (fun _ _ _ h => h) (Or.inl ⟨by rfl, fun _ _ => by kernel_rfl⟩) hS0 ?_
            simp only [Act.put, List.setIfInBounds_toArray, List.set_cons_zero, List.set_cons_succ]
            refine heldTake (i := 2) 128 (v := .agg #[.int .i64 B.bal.r, .int .i64 B.bal.n, .slice gy K1 cy]) rfl rfl (by kernel_rfl) (by kernel_rfl) (by kernel_rfl) (fun _ _ _ h => h) (yieldRow (by rfl) 26 (.tmp 14) rfl gA rfl 26 _ (fun w' hw' => (hw'.other gA (by omega)).trans qA2) Tryd.underlying26 rfl ac3k) hS0 ?_
            simp only [Act.put, List.setIfInBounds_toArray, List.set_cons_zero, List.set_cons_succ]
            refine heldTake (i := 3) 129 (v := .pointer (some ⟨m, 0, none⟩)) rfl rfl (by kernel_rfl) (by kernel_rfl) (by kernel_rfl) (fun _ _ _ h => h) (Or.inl ⟨by rfl, fun _ _ => by kernel_rfl⟩) hS0 ?_
            simp only [Act.put, List.setIfInBounds_toArray, List.set_cons_zero, List.set_cons_succ]
            refine heldTake (i := 4) 130 (v := .pointer (some ⟨m, 0, none⟩)) rfl rfl (by kernel_rfl) (by kernel_rfl) (by kernel_rfl) (fun _ _ _ h => h) (Or.inl ⟨by rfl, fun _ _ => by kernel_rfl⟩) hS0 ?_
            simp only [Act.put, List.setIfInBounds_toArray, List.set_cons_zero, List.set_cons_succ]
            refine heldTake (i := 5) 131 (v := .pointer (some ⟨m, 3 * n, none⟩)) rfl rfl (by kernel_rfl) (by kernel_rfl) (by kernel_rfl) (fun _ _ _ h => h) (yieldIndexArr (by rfl) 55 26 5 3 (.tmp 130) (.tmp 127) rfl Tryd.underlying55 ac3k m 0 n (3 * n) hn5 (by omega) rfl rfl) hS0 ?_
            simp only [Act.put, List.setIfInBounds_toArray, List.set_cons_zero, List.set_cons_succ]
            have O2 : Only m V1 (V1.drew.setCells m (3 * n) [.int .i64 B.bal.r, .int .i64 B.bal.n, .slice gy K1 cy]) := ((Only.refl m V1).drew).trans (Only.store _ _ _ _)
            have B2 : Blk (V1.drew.setCells m (3 * n) [.int .i64 B.bal.r, .int .i64 B.bal.n, .slice gy K1 cy]) m 61 38 _ := (s2.mb.keep (w' := V1.drew) rfl).store (3 * n) [.int .i64 B.bal.r, .int .i64 B.bal.n, .slice gy K1 cy]
            refine heldOne (i := 6) (by kernel_rfl) (opStoreMid rfl (by kernel_rfl) rfl 26 (.tmp 131) (.tmp 128) rfl m (3 * n) #[.int .i64 B.bal.r, .int .i64 B.bal.n, .slice gy K1 cy] (by kernel_rfl) (by kernel_rfl) ((s2.mb.keep (w' := V1.drew) rfl).there (by show 3 * n + 3 ≤ 38; omega)) ac3k (by simp [Value.oneCell']) ⟨O2, ?_⟩)
            exact wpAnyH_done (by kernel_rfl) (HK2 _ ⟨O2, s2.vote O2 hn5 B.bal (insV (node n).vs ⟨(s : Int), B.bal, c⟩) (.slice gy K1 cy) B2 oyF hVL⟩) _
          · rintro V2 ⟨oN, s3⟩
            have d3 := (d1.trans (oF.below (Nat.le_refl _))).trans (oN.below (Nat.le_refl _))
            have t3 := (t1.low hm (oF.below (Nat.le_refl _))).low hm (oN.below (Nat.le_refl _))
            clear s1 s2 oF oN oyF qA qA2 hrA cF heb hrg d1 t1
            go_wp2_with fail
            refine (look_any V2 m _ _ _ _ s3 HJ.out t3 hm).mono ?_
            rintro e w9 ⟨rfl, ch9, f9, s9, i9, b9⟩
            go_wp2
            go_end0
            exact ⟨rfl, _, _, _, _, s9, i9, by show rounds ≤ rounds + 1; omega, d3.trans b9⟩
end Go.Proofs.YticjofjghpdmpaaDoor
/-
  The walk of a ply: what must be proposed is asked for; no vote was told.
-/
namespace Go.Proofs.YticjofjghpdmpaaDoor
open Go.RowKit
set_option linter.unusedVariables false

set_option maxHeartbeats 4000000 in
set_option maxRecDepth 100000 in
theorem play_ask2 (w : World) (m : Nat) (node : Nat → Acc) (bid : Nat → Option Bid) (rounds : Int) (ch : Nat → Option Cmd) (f ys : Nat → Value) (bs : Nat → Option Nat) (h : St w m ⟨node, bid, rounds, ch⟩ f ys bs) (hI : MInv ⟨node, bid, rounds, ch⟩) (hr : rounds < 65000) (ht : NTab w) (hm : 0 < m)
    (pk pc ps pn pv : Int) (ik : I64 pk) (ic : I64 pc) (is : I64 ps) (in4 : I64 pn) (iv : I64 pv) (n k kd : Nat) (hn : pick pc 5 = (n : Int)) (hn5 : n < 5) (hk : pick ps 3 = (k : Int)) (hk3 : k < 3) (hkd : pick pk 12 = (kd : Int)) (hkd2 : kd < 12) (hk6 : 6 ≤ kd) (B : Bid) (hbk : bid k = some B) (hc : 3 ≤ countOf B) (s : Nat) (hs : pick pn 3 = (s : Int)) (hs3 : s < 3) (hw : B.what s = none) (hu : pickO (listsOf B) (s : Int) = none) :
    Calls Tryd.prog 24 #[.pointer (some ⟨m, 0, none⟩), .agg #[.int .i64 pk, .int .i64 pc, .int .i64 ps, .int .i64 pn, .int .i64 pv]] w fun e w' => e = .returned (.tuple #[]) ∧ Res w m rounds w' := by
  have HI : Hid (MInv ⟨node, bid, rounds, ch⟩) := hI
  have hr0 : 0 ≤ rounds := by obtain ⟨H, h0⟩ := hI; exact h0.r0
  clear hI
  have HT : Hid (NTab w) := ht
  have bb : Below w.heap.size w (w.alloc (.cells #[.int .i64 pk, .int .i64 pc, .int .i64 ps, .int .i64 pn, .int .i64 pv] 64)) := (Below.refl _ _).alloc (Nat.le_refl _) _
  have rr := heap_alloc_new w (.cells #[.int .i64 pk, .int .i64 pc, .int .i64 ps, .int .i64 pn, .int .i64 pv] 64)
  generalize hW0 : w.alloc (.cells #[.int .i64 pk, .int .i64 pc, .int .i64 ps, .int .i64 pn, .int .i64 pv] 64) = W0 at bb rr
  go_enter Tryd.func24, Tryd.ntmps24
  go_upto_region 1 with fail
  clear hW0
  have h0 := h.below bb
  have t0 := ht.below bb
  have d0 : Below m w W0 := bb.mono (Nat.le_of_lt h.mb.lt)
  have hgm : m < w.heap.size := h.mb.lt
  have lP : w.heap.size < W0.heap.size := (Array.getElem?_eq_some_iff.1 rr).1
  obtain ⟨gP, hgP⟩ : ∃ g, g = w.heap.size := ⟨_, rfl⟩
  rw [← hgP] at rr hgm lP ⊢
  clear hgP bb ht
  have p0 : W0.cell? ⟨gP, 0, none⟩ = some (.int .i64 pk) := cell_of_row _ _ 0 _ _ _ rr
  have p1 : W0.cell? ⟨gP, 1, none⟩ = some (.int .i64 pc) := cell_of_row _ _ 1 _ _ _ rr
  have p2 : W0.cell? ⟨gP, 2, none⟩ = some (.int .i64 ps) := cell_of_row _ _ 2 _ _ _ rr
  have p3 : W0.cell? ⟨gP, 3, none⟩ = some (.int .i64 pn) := cell_of_row _ _ 3 _ _ _ rr
  have p4 : W0.cell? ⟨gP, 4, none⟩ = some (.int .i64 pv) := cell_of_row _ _ 4 _ _ _ rr
  go_wp2_with fail
  refine (ic.picked 5 _ (by omega) (by omega)).mono ?_
  rintro e wq ⟨rfl, hwq⟩
  replace hwq := hwq.symm
  subst hwq
  rw [hn]
  go_wp2_with fail
  refine (is.picked 3 _ (by omega) (by omega)).mono ?_
  rintro e wq ⟨rfl, hwq⟩
  replace hwq := hwq.symm
  subst hwq
  rw [hk]
  have hib := runIndexArr 57 56 3 1 Tryd.underlying57 ptrSize m 15 k hk3
  rw [Nat.one_mul] at hib
  obtain ⟨g, hg, HBA0⟩ := h0.bd k hk3 B hbk
  have HBA : Hid (BidAt W0 g B) := HBA0
  clear HBA0
  have HG : Hid (bs k = some g) := hg
  have hgt := h0.gt k g hk3 hg
  have cb : W0.cell? ⟨m, 15 + k, none⟩ = some (.pointer (some ⟨g, 0, none⟩)) := by rw [h0.mb.cell (show 15 + k < 38 by omega), h0.mf.bp k hk3, hg]; rfl
  clear hg
  go_wp2_with fail
  refine (ik.picked 12 _ (by omega) (by omega)).mono ?_
  rintro e wq ⟨rfl, hwq⟩
  replace hwq := hwq.symm
  subst hwq
  rw [hkd]
  have hz : ¬ ((kd : Int) = 0) := by omega
  have hz6 : ¬ ((kd : Int) < 6) := by omega
  go_wp2_with fail
  refine (ik.picked 12 _ (by omega) (by omega)).mono ?_
  rintro e wq ⟨rfl, hwq⟩
  replace hwq := hwq.symm
  subst hwq
  rw [hkd]
  go_wp2_with fail
  refine (count_any W0 g B HBA.out).mono ?_
  rintro e wq ⟨rfl, hwq⟩
  replace hwq := hwq.symm
  subst hwq
  have hc5 := countOf_le B
  have HC : Hid (3 ≤ countOf B) := hc
  generalize countOf B = cn at hc hc5
  have hc2 : ¬ ((2 : Int) * (cn : Int) ≤ 5) := by omega
  go_wp2_with fail
  refine (in4.picked 3 _ (by omega) (by omega)).mono ?_
  rintro e wq ⟨rfl, hwq⟩
  replace hwq := hwq.symm
  subst hwq
  rw [hs]
  have iak := runIndexArr 59 4 3 1 Tryd.underlying59 boSize g 12 s hs3
  rw [Nat.one_mul] at iak
  have cak := HBA.out.askedAt hs3
  rw [hw] at cak
  have cak2 : W0.cell? ⟨g, 12 + s, none⟩ = some (.bool false) := cak
  have HE : Hid (pickE (listsOf B) (s : Int) = 0) := HI.out.pickE hbk hs3
  go_wp2_with fail
  refine (lists_any W0 g B HBA.out).mono ?_
  rintro e w1 ⟨y1, rfl, sv1, b1⟩
  obtain ⟨ay, cy, hy1⟩ := sv1.shape
  obtain ⟨N1, hN1⟩ : ∃ N1, (listsOf B).length = N1 := ⟨_, rfl⟩
  rw [hN1] at hy1
  clear hN1
  subst hy1
  have s1 := h0.below b1
  have t1 := t0.below b1
  have d1 : Below m w w1 := d0.trans (b1.mono (Nat.le_of_lt h0.mb.lt))
  have q1 := (b1.block _ lP).trans rr
  have lP1 := Nat.lt_of_lt_of_le lP b1.size
  clear cak cak2 iak p0 p1 p2 p3 p4 cb hib
  go_wp2_with fail
  refine (pick_any _ (listsOf B) (s : Int) w1 sv1 t1).mono ?_
  rintro e w2 ⟨rfl, b2⟩
  have s2 := s1.below b2
  have t2 := t1.below b2
  have d2 : Below m w w2 := d1.trans (b2.mono (Nat.le_of_lt s1.mb.lt))
  have q2 := (b2.block _ lP1).trans q1
  have lP2 := Nat.lt_of_lt_of_le lP1 b2.size
  rw [HE.out]
  obtain ⟨f1, f2⟩ : pickF (listsOf B) (s : Int) = false ∧ pickC (listsOf B) (s : Int) = ⟨0, 0, 0, 0, 0⟩ := by
    rcases pick_two _ _ HE.out with ⟨_, f1, f2⟩ | ⟨v, f1, _⟩
    · exact ⟨f1, f2⟩
    · rw [hu] at f1; cases f1
  rw [f1, f2]
  clear f1 f2
  have HU : Hid (pickO (listsOf B) (s : Int) = none) := hu
  clear hu
  simp only [cmC, cmA]
  have bN : Below w2.heap.size w2 (w2.alloc (.cells #[.int .i64 0, .int .i64 0, .int .i64 0, .int .i64 0, .int .i64 0] 37)) := (Below.refl _ _).alloc (Nat.le_refl _) _
  have rN := heap_alloc_new w2 (.cells #[.int .i64 0, .int .i64 0, .int .i64 0, .int .i64 0, .int .i64 0] 37)
  have on : (#[.int .i64 0, .int .i64 0, .int .i64 0, .int .i64 0, .int .i64 0] : Array Value).all (·.oneCell') = true := by simp [Value.oneCell']
  generalize hN : w2.alloc (.cells #[.int .i64 0, .int .i64 0, .int .i64 0, .int .i64 0, .int .i64 0] 37) = N at bN rN
  go_upto_region 8 with ((with_reducible (refine pxLook ?_)); (refine wpList_store_row rfl 37 (.tmp 11) (.tmp 47) rfl w2.heap.size #[.int .i64 0, .int .i64 0, .int .i64 0, .int .i64 0, .int .i64 0] rfl rfl 37 _ rN cmSize rfl on ?_))
  clear hN
  have qN := setRow_heap N w2.heap.size _ (#[.int .i64 0, .int .i64 0, .int .i64 0, .int .i64 0, .int .i64 0]) 37 _ rN
  replace bN := oBelow_rowP bN (Nat.le_refl _) (#[.int .i64 0, .int .i64 0, .int .i64 0, .int .i64 0, .int .i64 0])
  generalize N.setRow w2.heap.size (#[.int .i64 0, .int .i64 0, .int .i64 0, .int .i64 0, .int .i64 0]) = W at qN bN ⊢
  have lN : w2.heap.size < W.heap.size := (Array.getElem?_eq_some_iff.1 qN).1
  have hgC0 : gP < w2.heap.size := lP2
  have hgC1 : g < w2.heap.size := (s2.gt k g hk3 HG.out).2
  have hgC2 : m < w2.heap.size := s2.mb.lt
  obtain ⟨gC, hgC⟩ : ∃ g, g = w2.heap.size := ⟨_, rfl⟩
  rw [← hgC] at qN lN hgC0 hgC1 hgC2 ⊢
  have s3 := s2.below bN
  have t3 := t2.below bN
  have d3 : Below m w W := d2.trans (bN.mono (Nat.le_of_lt s2.mb.lt))
  have q3 := (bN.block _ lP2).trans q2
  have hgm4 := (s2.gt k g hk3 HG.out).1
  clear hgC rN bN b1 b2 s1 s2 t1 t2 d1 d2 q1 q2 lP1 lP2 lP rr h h0 t0 d0 HBA sv1
  have p4 : W.cell? ⟨gP, 4, none⟩ = some (.int .i64 pv) := cell_of_row _ _ 4 _ _ _ q3
  have c18 : W.cell? ⟨m, 18, none⟩ = some (.int .i64 rounds) := by rw [s3.mb.cell (by omega), s3.mf.rd]
  have pr := pick_range pv 100 (by omega)
  go_wp2_with fail
  apply p_merge (fun W2 => Only gC W W2 ∧ W2.heap[gC]? = some (.cells #[.int .i64 1, .int .i64 0, .int .i64 rounds, .int .i64 0, .int .i64 (pick pv 100)] 37))
  · intro K2 HK2
    refine wp_region_held (S := fun w' => w'.cell? ⟨gP, 4, none⟩ = some (.int .i64 pv) ∧ w'.cell? ⟨m, 18, none⟩ = some (.int .i64 rounds)) (by kernel_rfl) ?_
    have hS0 : (fun w' : World => w'.cell? ⟨gP, 4, none⟩ = some (.int .i64 pv) ∧ w'.cell? ⟨m, 18, none⟩ = some (.int .i64 rounds)) W.drew := ⟨p4, c18⟩
    refine heldTake (i := 0) 52 (v := .pointer (some ⟨gP, 4, none⟩)) rfl rfl (by kernel_rfl) (by kernel_rfl) (by kernel_rfl) (fun _ _ _ h => h) (Or.inl ⟨by rfl, fun _ _ => by kernel_rfl⟩) hS0 ?_
    simp only [Act.put, List.setIfInBounds_toArray, List.set_cons_zero, List.set_cons_succ]
    refine heldTake (i := 1) 53 (v := .int .i64 pv) rfl rfl (by kernel_rfl) (by kernel_rfl) (by kernel_rfl) (fun _ _ _ h => h) (yieldCell (by rfl) 3 (.tmp 52) rfl _ Tryd.underlying3 rfl ⟨gP, 4, none⟩ rfl (.int .i64 pv) (fun w' hw' => hw'.1)) hS0 ?_
    simp only [Act.put, List.setIfInBounds_toArray, List.set_cons_zero, List.set_cons_succ]
    refine heldTake (i := 3) 55 (v := .pointer (some ⟨m, 0, none⟩)) rfl rfl (by kernel_rfl) (by kernel_rfl) (by kernel_rfl) (fun _ _ _ h => h) (Or.inl ⟨by rfl, fun _ _ => by kernel_rfl⟩) hS0 ?_
    simp only [Act.put, List.setIfInBounds_toArray, List.set_cons_zero, List.set_cons_succ]
    refine heldTake (i := 4) 56 (v := .pointer (some ⟨m, 0, none⟩)) rfl rfl (by kernel_rfl) (by kernel_rfl) (by kernel_rfl) (fun _ _ _ h => h) (Or.inl ⟨by rfl, fun _ _ => by kernel_rfl⟩) hS0 ?_
    simp only [Act.put, List.setIfInBounds_toArray, List.set_cons_zero, List.set_cons_succ]
    refine heldTake (i := 5) 57 (v := .pointer (some ⟨m, 18, none⟩)) rfl rfl (by kernel_rfl) (by kernel_rfl) (by kernel_rfl) (fun _ _ _ h => h) (Or.inl ⟨by rfl, fun _ _ => by kernel_rfl⟩) hS0 ?_
    simp only [Act.put, List.setIfInBounds_toArray, List.set_cons_zero, List.set_cons_succ]
    refine heldTake (i := 6) 58 (v := .int .i64 rounds) rfl rfl (by kernel_rfl) (by kernel_rfl) (by kernel_rfl) (fun _ _ _ h => h) (yieldCell (by rfl) 3 (.tmp 57) rfl _ Tryd.underlying3 rfl ⟨m, 18, none⟩ rfl (.int .i64 rounds) (fun w' hw' => hw'.2)) hS0 ?_
    simp only [Act.put, List.setIfInBounds_toArray, List.set_cons_zero, List.set_cons_succ]
    refine heldOne (i := 2) (by kernel_rfl) (opCall (i := 2) (d := 54) (f := 38) (args := #[.int .i64 pv, .int .i64 100]) rfl (by kernel_rfl) rfl (by kernel_rfl) ((iv.picked 100 _ (by omega) (by omega)).mono ?_))
    rintro e' w' ⟨rfl, rfl⟩
    refine ⟨_, rfl, hS0, ?_⟩
    simp only [Act.put, List.setIfInBounds_toArray, List.set_cons_zero, List.set_cons_succ]
    refine heldTake (i := 7) 59 (v := .agg #[.int .i64 1, .int .i64 0, .int .i64 rounds, .int .i64 0, .int .i64 (pick pv 100)]) rfl rfl (by kernel_rfl) (by kernel_rfl) (by kernel_rfl) (fun _ _ _ h => h) (Or.inl ⟨by rfl, fun _ _ => by kernel_rfl⟩) hS0 ?_
    simp only [Act.put, List.setIfInBounds_toArray, List.set_cons_zero, List.set_cons_succ]
    have qD : W.drew.heap[gC]? = some (.cells #[.int .i64 0, .int .i64 0, .int .i64 0, .int .i64 0, .int .i64 0] 37) := qN
    have oR : Only gC W (W.drew.setRow gC #[.int .i64 1, .int .i64 0, .int .i64 rounds, .int .i64 0, .int .i64 (pick pv 100)]) := ⟨rfl, rfl, rfl, by unfold World.setRow; simp, fun k hk => setRow_other _ _ _ _ hk⟩
    refine heldOne (i := 8) (by kernel_rfl) (opStore (i := 8) rfl (by kernel_rfl) rfl 37 (.tmp 11) (.tmp 59) rfl gC #[.int .i64 1, .int .i64 0, .int .i64 rounds, .int .i64 0, .int .i64 (pick pv 100)] (by kernel_rfl) (by kernel_rfl) 37 _ qD cmSize rfl (by simp [Value.oneCell']) ⟨⟨onlyCell oR (by omega) p4, onlyCell oR (by omega) c18⟩, ?_⟩)
    exact wpAnyH_done (by kernel_rfl) (HK2 _ ⟨oR, setRow_heap _ gC _ #[.int .i64 1, .int .i64 0, .int .i64 rounds, .int .i64 0, .int .i64 (pick pv 100)] 37 _ qD⟩) _
  · rintro V ⟨oV, q4⟩
    have s4 := s3.onlyOther oV qN (by decide) (by decide) (by decide)
    have t4 := t3.low hm (oV.below (Nat.le_of_lt hgC2))
    have d4 := d3.trans (oV.below (Nat.le_of_lt hgC2))
    have HW : Hid (Cmd.e ⟨1, 0, rounds, 0, pick pv 100⟩ = 0 ∧ (pickO (listsOf B) (s : Int) = none ∨ ∃ v, pickO (listsOf B) (s : Int) = some v ∧ (⟨1, 0, rounds, 0, pick pv 100⟩ : Cmd) = v.w)) := ⟨show comE 1 0 rounds 0 (pick pv 100) = 0 from comE_ok (by omega) (by unfold InC; omega) (.inl rfl), .inl HU.out⟩
    clear s3 t3 d3 p4 c18 oV HU qN
    have HJ : Hid (MInv ⟨node, upN bid k (some { B with what := upN B.what s (some ⟨1, 0, rounds, 0, pick pv 100⟩) }), rounds, ch⟩) := HI.out.ask hbk hs3 HC.out hw HW.out.1 HW.out.2
    have c37 : V.cell? ⟨m, 37, none⟩ = some (.bool true) := by rw [s4.mb.cell (by omega), s4.mf.fi]
    have f37 := s4.mb.frozen 37
    have O5 := Only.one V m 37 (.bool true)
    have B5 := s4.mb.one 37 (.bool true)
    have s5 := s4.turnM O5 B5 s4.mf.fine s4.ov
    have d5 := d4.trans (O5.below (Nat.le_refl _))
    have t5 := t4.low hm (O5.below (Nat.le_refl _))
    have q5 := (O5.other gC (by omega)).trans q4
    obtain ⟨g', hg', hba⟩ := s5.bd k hk3 B hbk
    obtain rfl : g' = g := Option.some.inj (hg'.symm.trans HG.out)
    obtain ⟨F, zs, hF, hBF, hV⟩ := hba
    have c12 := hF.cell (show 12 + s < 30 by omega)
    have f12 := hF.frozen (12 + s)
    have i12 := runIndexArr 59 4 3 1 Tryd.underlying59 boSize g' 12 s hs3
    rw [Nat.one_mul] at i12
    have O6 := Only.one (V.setCell ⟨m, 37, none⟩ (.bool true)) g' (12 + s) (.bool true)
    have B6 := hF.one (12 + s) (.bool true)
    have q6 := (O6.other gC (by omega)).trans q5
    clear hw
    go_wp2_with ((with_reducible (refine pxLook ?_)); first | (refine wpList_store_one rfl 4 (.tmp 70) _ rfl m 37 (.bool true) _ rfl rfl c37 f37 boSize rfl ?_) | (refine wpList_store_one rfl 4 (.tmp 75) _ rfl g' (12 + s) (.bool true) _ rfl rfl c12 f12 boSize rfl ?_))
    clear c37 f37 c12 f12 i12
    generalize (V.setCell ⟨m, 37, none⟩ (.bool true)).setCell ⟨g', 12 + s, none⟩ (.bool true) = V6 at O6 B6 q6 ⊢
    generalize V.setCell ⟨m, 37, none⟩ (.bool true) = V5 at s5 d5 t5 O6 hF hV
    clear O5 B5 q5 s4 t4 d4 q4
    (try simp only [Act.put])
    apply p_merge (fun W2 => ∃ (f1 : Nat → Value) (bid1 : Nat → Option Bid) (B1 : Bid), St W2 m ⟨node, bid1, rounds, ch⟩ f1 ys bs ∧ bid1 k = some B1 ∧ B1.what s = some ⟨1, 0, rounds, 0, pick pv 100⟩ ∧ Hid (MInv ⟨node, bid1, rounds, ch⟩) ∧ Below m w W2)
    · intro K2 HK2
      refine wp_region_held (S := fun w' => Only g' V6 w') (by kernel_rfl) ?_
      have hS0 : (fun w' : World => Only g' V6 w') V6.drew := (Only.refl _ _).drew
      refine heldTake (i := 0) 76 (v := .pointer (some ⟨g', 0, none⟩)) rfl rfl (by kernel_rfl) (by kernel_rfl) (by kernel_rfl) (fun _ _ _ h => h) (Or.inl ⟨by rfl, fun _ _ => by kernel_rfl⟩) hS0 ?_
      simp only [Act.put, List.setIfInBounds_toArray, List.set_cons_zero, List.set_cons_succ]
      refine heldTake (i := 1) 77 (v := .int .i64 (s : Int)) rfl rfl (by kernel_rfl) (by kernel_rfl) (by kernel_rfl) (fun _ _ _ h => h) (Or.inl ⟨by rfl, fun _ _ => by kernel_rfl⟩) hS0 ?_
      simp only [Act.put, List.setIfInBounds_toArray, List.set_cons_zero, List.set_cons_succ]
      refine heldTake (i := 2) 78 (v := .agg #[.int .i64 1, .int .i64 0, .int .i64 rounds, .int .i64 0, .int .i64 (pick pv 100)]) rfl rfl (by kernel_rfl) (by kernel_rfl) (by kernel_rfl) (fun _ _ _ h => h) (yieldRow (by rfl) 37 (.tmp 11) rfl gC rfl 37 _ (fun w' hw' => (hw'.other gC (by omega)).trans q6) Tryd.underlying37 rfl cmSize) hS0 ?_
      simp only [Act.put, List.setIfInBounds_toArray, List.set_cons_zero, List.set_cons_succ]
      refine heldTake (i := 3) 79 (v := .pointer (some ⟨g', 0, none⟩)) rfl rfl (by kernel_rfl) (by kernel_rfl) (by kernel_rfl) (fun _ _ _ h => h) (Or.inl ⟨by rfl, fun _ _ => by kernel_rfl⟩) hS0 ?_
      simp only [Act.put, List.setIfInBounds_toArray, List.set_cons_zero, List.set_cons_succ]
      refine heldTake (i := 4) 80 (v := .pointer (some ⟨g', 15, none⟩)) rfl rfl (by kernel_rfl) (by kernel_rfl) (by kernel_rfl) (fun _ _ _ h => h) (Or.inl ⟨by rfl, fun _ _ => by kernel_rfl⟩) hS0 ?_
      simp only [Act.put, List.setIfInBounds_toArray, List.set_cons_zero, List.set_cons_succ]
      refine heldTake (i := 5) 81 (v := .pointer (some ⟨g', 15 + 5 * s, none⟩)) rfl rfl (by kernel_rfl) (by kernel_rfl) (by kernel_rfl) (fun _ _ _ h => h) (yieldIndexArr (by rfl) 58 37 3 5 (.tmp 80) (.tmp 77) rfl Tryd.underlying58 cmSize g' 15 s (15 + 5 * s) hs3 (by omega) rfl rfl) hS0 ?_
      simp only [Act.put, List.setIfInBounds_toArray, List.set_cons_zero, List.set_cons_succ]
      have O7 : Only g' V6 (V6.drew.setCells g' (15 + 5 * s) (cmL ⟨1, 0, rounds, 0, pick pv 100⟩)) := hS0.trans (Only.store _ _ _ _)
      have B7 : Blk (V6.drew.setCells g' (15 + 5 * s) (cmL ⟨1, 0, rounds, 0, pick pv 100⟩)) g' 77 30 _ := (B6.keep (w' := V6.drew) rfl).store (15 + 5 * s) (cmL ⟨1, 0, rounds, 0, pick pv 100⟩)
      refine heldOne (i := 6) (by kernel_rfl) (opStoreMid rfl (by kernel_rfl) rfl 37 (.tmp 81) (.tmp 78) rfl g' (15 + 5 * s) #[.int .i64 1, .int .i64 0, .int .i64 rounds, .int .i64 0, .int .i64 (pick pv 100)] (by kernel_rfl) (by kernel_rfl) ((B6.keep (w' := V6.drew) rfl).there (by show 15 + 5 * s + 5 ≤ 30; omega)) cmSize (by simp [Value.oneCell']) ⟨O7, ?_⟩)
      have hba7 := BidAt.ask hF hBF hV (O6.trans O7) hs3 B7
      exact wpAnyH_done (by kernel_rfl) (HK2 _ ⟨_, _, _, s5.turnB hk3 HG.out hF (O6.trans O7) hba7, upN_at _ _ _, upN_at _ _ _, HJ, d5.trans ((O6.trans O7).below (Nat.le_of_lt hgm4))⟩) _
    · rintro V0 ⟨f9, bid9, B9, s9, hbk9, hw9, HI9, d9⟩
      have t9 := HT.out.low hm d9
      clear HI hbk HJ HW s5 d5 t5 O6 hF hBF hV B6 q6 hg' hgm4
      obtain ⟨g, rfl⟩ : ∃ g, g = g' := ⟨_, rfl⟩
      obtain ⟨f, rfl⟩ : ∃ f, f = f9 := ⟨_, rfl⟩
      obtain ⟨bid, rfl⟩ : ∃ bid, bid = bid9 := ⟨_, rfl⟩
      obtain ⟨B, rfl⟩ : ∃ B, B = B9 := ⟨_, rfl⟩
      have s0 := s9
      have HI := HI9
      have hbk := hbk9
      have hw := hw9
      have d0 := d9
      have t0 := t9
      clear s9 HI9 hbk9 hw9 d9 t9
      obtain ⟨c, hcc⟩ : ∃ c : Cmd, c = ⟨1, 0, rounds, 0, pick pv 100⟩ := ⟨_, rfl⟩
      rw [← hcc] at hw
      clear hcc
      have HBA : Hid (BidAt V0 g B) := by
        obtain ⟨g', hg', hba⟩ := s0.bd k hk3 B hbk
        obtain rfl : g' = g := Option.some.inj (hg'.symm.trans HG.out)
        exact hba
      have hml := s0.mb.lt
      have hgl := (s0.gt k g hk3 HG.out).2
      have hra := s0.nodeAt hn5
      have hrb := HBA.out.balAt
      have hL40 := (s0.ov n hn5).2
      have hsv : Sv V0 (ys n) (node n).vs := Sv.ofOwns (s0.ov n hn5).1 (by have := hL40; simp only at this; omega)
      simp only at hra hL40
      have hrw := HBA.out.whatAt hs3 hw
      have hgm3 := (s0.gt k g hk3 HG.out).1
      obtain ⟨P1, hP1⟩ : ∃ P1, accP (node n) (⟨(s : Int), B.bal, c⟩ : Vt) = P1 := ⟨_, rfl⟩
      obtain ⟨L1, hL1⟩ : ∃ L1, accL (node n) (⟨(s : Int), B.bal, c⟩ : Vt) = L1 := ⟨_, rfl⟩
      obtain ⟨E1, hE1⟩ : ∃ E1, votE (node n) (⟨(s : Int), B.bal, c⟩ : Vt) = E1 := ⟨_, rfl⟩
      obtain ⟨qr, qn⟩ := P1
      have HP1 : Hid (accP (node n) (⟨(s : Int), B.bal, c⟩ : Vt) = ⟨qr, qn⟩ ∧ accL (node n) (⟨(s : Int), B.bal, c⟩ : Vt) = L1 ∧ votE (node n) (⟨(s : Int), B.bal, c⟩ : Vt) = E1) := ⟨hP1, hL1, hE1⟩
      obtain ⟨K1, hK1⟩ : ∃ K1, L1.length = K1 := ⟨_, rfl⟩
      have HK1 : Hid (L1.length = K1) := hK1
      clear hP1 hL1 hE1 hK1
      go_wp2_with fail
      apply p_mergeG4 (fun gA gy cy W2 => W2.heap[gA]? = some (.cells #[.int .i64 qr, .int .i64 qn, .slice gy K1 cy] 26) ∧ Ov W2 (.slice gy K1 cy) L1 ∧ L1.length ≤ 40 ∧ Below V0.heap.size V0 W2 ∧ V0.heap.size ≤ gA)
      · intro K2 HK2
        have ed : Below V0.heap.size V0 V0.drew := (Below.refl _ _).drew
        refine wp_region_held (S := fun w' => Below V0.heap.size V0 w') (by kernel_rfl) ?_
        refine heldTake (i := 0) 83 (v := .pointer (some ⟨m, 0, none⟩)) rfl rfl (by kernel_rfl) (by kernel_rfl) (by kernel_rfl) (fun _ _ _ h => h) (Or.inl ⟨by rfl, fun _ _ => by kernel_rfl⟩) ed ?_
        simp only [Act.put, List.setIfInBounds_toArray, List.set_cons_zero, List.set_cons_succ]
        refine heldTake (i := 1) 84 (v := .int .i64 (n : Int)) rfl rfl (by kernel_rfl) (by kernel_rfl) (by kernel_rfl) (fun _ _ _ h => h) (Or.inl ⟨by rfl, fun _ _ => by kernel_rfl⟩) ed ?_
        simp only [Act.put, List.setIfInBounds_toArray, List.set_cons_zero, List.set_cons_succ]
        refine heldTake (i := 2) 85 (v := .pointer (some ⟨m, 0, none⟩)) rfl rfl (by kernel_rfl) (by kernel_rfl) (by kernel_rfl) (fun _ _ _ h => h) (Or.inl ⟨by rfl, fun _ _ => by kernel_rfl⟩) ed ?_
        simp only [Act.put, List.setIfInBounds_toArray, List.set_cons_zero, List.set_cons_succ]
        refine heldTake (i := 3) 86 (v := .pointer (some ⟨m, 0, none⟩)) rfl rfl (by kernel_rfl) (by kernel_rfl) (by kernel_rfl) (fun _ _ _ h => h) (Or.inl ⟨by rfl, fun _ _ => by kernel_rfl⟩) ed ?_
        simp only [Act.put, List.setIfInBounds_toArray, List.set_cons_zero, List.set_cons_succ]
        refine heldTake (i := 4) 87 (v := .pointer (some ⟨m, 3 * n, none⟩)) rfl rfl (by kernel_rfl) (by kernel_rfl) (by kernel_rfl) (fun _ _ _ h => h) (yieldIndexArr (by rfl) 55 26 5 3 (.tmp 86) (.tmp 84) rfl Tryd.underlying55 ac3k m 0 n (3 * n) hn5 (by omega) rfl rfl) ed ?_
        simp only [Act.put, List.setIfInBounds_toArray, List.set_cons_zero, List.set_cons_succ]
        refine heldTake (i := 5) 88 (v := .agg (acA (node n).p (ys n))) rfl rfl (by kernel_rfl) (by kernel_rfl) (by kernel_rfl) (fun _ _ _ h => h) (yieldsIf_load_mid (by rfl) 26 (.tmp 87) rfl m (3 * n) rfl [.int .i64 (node n).p.r, .int .i64 (node n).p.n, ys n] _ (fun w' hw' => pRange hw' hml hra) Tryd.underlying26 rfl ac3k) ed ?_
        simp only [Act.put, List.setIfInBounds_toArray, List.set_cons_zero, List.set_cons_succ]
        refine heldTake (i := 6) 89 (v := .int .i64 (s : Int)) rfl rfl (by kernel_rfl) (by kernel_rfl) (by kernel_rfl) (fun _ _ _ h => h) (Or.inl ⟨by rfl, fun _ _ => by kernel_rfl⟩) ed ?_
        simp only [Act.put, List.setIfInBounds_toArray, List.set_cons_zero, List.set_cons_succ]
        refine heldTake (i := 7) 90 (v := .pointer (some ⟨g, 0, none⟩)) rfl rfl (by kernel_rfl) (by kernel_rfl) (by kernel_rfl) (fun _ _ _ h => h) (Or.inl ⟨by rfl, fun _ _ => by kernel_rfl⟩) ed ?_
        simp only [Act.put, List.setIfInBounds_toArray, List.set_cons_zero, List.set_cons_succ]
        refine heldTake (i := 8) 91 (v := .pointer (some ⟨g, 0, none⟩)) rfl rfl (by kernel_rfl) (by kernel_rfl) (by kernel_rfl) (fun _ _ _ h => h) (Or.inl ⟨by rfl, fun _ _ => by kernel_rfl⟩) ed ?_
        simp only [Act.put, List.setIfInBounds_toArray, List.set_cons_zero, List.set_cons_succ]
        refine heldTake (i := 9) 92 (v := .pointer (some ⟨g, 0, none⟩)) rfl rfl (by kernel_rfl) (by kernel_rfl) (by kernel_rfl) (fun _ _ _ h => h) (Or.inl ⟨by rfl, fun _ _ => by kernel_rfl⟩) ed ?_
        simp only [Act.put, List.setIfInBounds_toArray, List.set_cons_zero, List.set_cons_succ]
        refine heldTake (i := 10) 93 (v := .agg (baA B.bal)) rfl rfl (by kernel_rfl) (by kernel_rfl) (by kernel_rfl) (fun _ _ _ h => h) (yieldsIf_load_mid (by rfl) 23 (.tmp 92) rfl g (0) rfl [.int .i64 B.bal.r, .int .i64 B.bal.n] _ (fun w' hw' => pRange hw' hgl hrb) Tryd.underlying23 rfl baSize) ed ?_
        simp only [Act.put, List.setIfInBounds_toArray, List.set_cons_zero, List.set_cons_succ]
        refine heldTake (i := 11) 94 (v := .pointer (some ⟨g, 0, none⟩)) rfl rfl (by kernel_rfl) (by kernel_rfl) (by kernel_rfl) (fun _ _ _ h => h) (Or.inl ⟨by rfl, fun _ _ => by kernel_rfl⟩) ed ?_
        simp only [Act.put, List.setIfInBounds_toArray, List.set_cons_zero, List.set_cons_succ]
        refine heldTake (i := 12) 95 (v := .int .i64 (s : Int)) rfl rfl (by kernel_rfl) (by kernel_rfl) (by kernel_rfl) (fun _ _ _ h => h) (Or.inl ⟨by rfl, fun _ _ => by kernel_rfl⟩) ed ?_
        simp only [Act.put, List.setIfInBounds_toArray, List.set_cons_zero, List.set_cons_succ]
        refine heldTake (i := 13) 96 (v := .pointer (some ⟨g, 0, none⟩)) rfl rfl (by kernel_rfl) (by kernel_rfl) (by kernel_rfl) (fun _ _ _ h => h) (Or.inl ⟨by rfl, fun _ _ => by kernel_rfl⟩) ed ?_
        simp only [Act.put, List.setIfInBounds_toArray, List.set_cons_zero, List.set_cons_succ]
        refine heldTake (i := 14) 97 (v := .pointer (some ⟨g, 15, none⟩)) rfl rfl (by kernel_rfl) (by kernel_rfl) (by kernel_rfl) (fun _ _ _ h => h) (Or.inl ⟨by rfl, fun _ _ => by kernel_rfl⟩) ed ?_
        simp only [Act.put, List.setIfInBounds_toArray, List.set_cons_zero, List.set_cons_succ]
        refine heldTake (i := 15) 98 (v := .pointer (some ⟨g, 15 + 5 * s, none⟩)) rfl rfl (by kernel_rfl) (by kernel_rfl) (by kernel_rfl) (fun _ _ _ h => h) (yieldIndexArr (by rfl) 58 37 3 5 (.tmp 97) (.tmp 95) rfl Tryd.underlying58 cmSize g 15 s (15 + 5 * s) hs3 (by omega) rfl rfl) ed ?_
        simp only [Act.put, List.setIfInBounds_toArray, List.set_cons_zero, List.set_cons_succ]
        refine heldTake (i := 16) 99 (v := .agg (cmC c)) rfl rfl (by kernel_rfl) (by kernel_rfl) (by kernel_rfl) (fun _ _ _ h => h) (yieldsIf_load_mid (by rfl) 37 (.tmp 98) rfl g (15 + 5 * s) rfl (cmL c) _ (fun w' hw' => pRange hw' hgl hrw) Tryd.underlying37 rfl cmSize) ed ?_
        simp only [Act.put, List.setIfInBounds_toArray, List.set_cons_zero, List.set_cons_succ]
        refine heldTake (i := 17) 100 (v := .agg #[.int .i64 (s : Int), .int .i64 B.bal.r, .int .i64 B.bal.n, .int .i64 c.k, .int .i64 c.c, .int .i64 c.s, .int .i64 c.n, .int .i64 c.v]) rfl rfl (by kernel_rfl) (by kernel_rfl) (by kernel_rfl) (fun _ _ _ h => h) (Or.inl ⟨by rfl, fun _ _ => by kernel_rfl⟩) ed ?_
        simp only [Act.put, List.setIfInBounds_toArray, List.set_cons_zero, List.set_cons_succ]
        refine heldTwo (i := 18) (i' := 22) (by kernel_rfl) ?_ ?_
        · refine (opCall (i := 18) (d := 101) (f := 16) (args := #[.agg (acA (node n).p (ys n)), .agg #[.int .i64 (s : Int), .int .i64 B.bal.r, .int .i64 B.bal.n, .int .i64 c.k, .int .i64 c.c, .int .i64 c.s, .int .i64 c.n, .int .i64 c.v]]) rfl (by kernel_rfl) rfl (by kernel_rfl) ((accept_own (node n).p (ys n) (node n).vs ⟨(s : Int), B.bal, c⟩ _ (hsv.below ed) (t0.below ed)).mono ?_))
          rintro e' wc1 ⟨y5, rfl, oy5, n5, bc1⟩
          have ec1 : Below V0.heap.size V0 wc1 := ed.trans (bc1.mono ed.size)
          rw [show accP ⟨(node n).p, (node n).vs⟩ ⟨(s : Int), B.bal, c⟩ = ⟨qr, qn⟩ from HP1.out.1, show votE ⟨(node n).p, (node n).vs⟩ ⟨(s : Int), B.bal, c⟩ = E1 from HP1.out.2.2]
          rw [show accL ⟨(node n).p, (node n).vs⟩ ⟨(s : Int), B.bal, c⟩ = L1 from HP1.out.2.1] at oy5 n5
          obtain ⟨gy, cy, hy5⟩ := ownsV_shape oy5
          rw [HK1.out] at hy5
          subst hy5
          have oy := Ov.of oy5
          simp only [acA]
          refine ⟨_, rfl, ec1, ?_⟩
          simp only [Act.put, List.setIfInBounds_toArray, List.set_cons_zero, List.set_cons_succ]
          refine heldTake (i := 19) 82 (v := .tuple #[.agg #[.int .i64 qr, .int .i64 qn, .slice gy K1 cy], .int .i64 E1]) rfl rfl (by kernel_rfl) (by kernel_rfl) (by kernel_rfl) (fun _ _ _ h => h) (Or.inl ⟨by rfl, fun _ _ => by kernel_rfl⟩) ec1 ?_
          simp only [Act.put, List.setIfInBounds_toArray, List.set_cons_zero, List.set_cons_succ]
          refine heldTake (i := 20) 102 (v := .agg #[.int .i64 qr, .int .i64 qn, .slice gy K1 cy]) rfl rfl (by kernel_rfl) (by kernel_rfl) (by kernel_rfl) (fun _ _ _ h => h) (Or.inl ⟨by rfl, fun _ _ => by kernel_rfl⟩) ec1 ?_
          simp only [Act.put, List.setIfInBounds_toArray, List.set_cons_zero, List.set_cons_succ]
          refine heldTake (i := 21) 103 (v := .int .i64 E1) rfl rfl (by kernel_rfl) (by kernel_rfl) (by kernel_rfl) (fun _ _ _ h => h) (Or.inl ⟨by rfl, fun _ _ => by kernel_rfl⟩) ec1 ?_
          simp only [Act.put, List.setIfInBounds_toArray, List.set_cons_zero, List.set_cons_succ]
          obtain ⟨gv2, hgv2⟩ : ∃ g, g = wc1.heap.size := ⟨_, rfl⟩
          have aG2 : Below wc1.heap.size wc1 (wc1.alloc (.cells #[.int .i64 0, .int .i64 0, .slice none 0 0] 26)) := (Below.refl _ _).alloc (Nat.le_refl _) _
          have eG2 : Below V0.heap.size V0 (wc1.alloc (.cells #[.int .i64 0, .int .i64 0, .slice none 0 0] 26)) := ec1.trans (aG2.mono ec1.size)
          have rG2 : (wc1.alloc (.cells #[.int .i64 0, .int .i64 0, .slice none 0 0] 26)).heap[gv2]? = some (.cells #[.int .i64 0, .int .i64 0, .slice none 0 0] 26) := by rw [hgv2]; exact heap_alloc_new _ _
          have hgle2 : V0.heap.size ≤ gv2 := by rw [hgv2]; exact ec1.size
          refine heldOne (i := 22) (by kernel_rfl) (opRun (i := 22) (d := 14) (v := .pointer (some ⟨gv2, 0, none⟩)) (w' := wc1.alloc (.cells #[.int .i64 0, .int .i64 0, .slice none 0 0] 26)) rfl (by kernel_rfl) rfl (by rw [hgv2]; kernel_rfl) ⟨eG2, ?_⟩)
          simp only [Act.put, List.setIfInBounds_toArray, List.set_cons_zero, List.set_cons_succ]
          have oy3 := oy.below aG2
          refine heldOne (i := 23) (by kernel_rfl) (opStore (i := 23) rfl (by kernel_rfl) rfl 26 (.tmp 14) (.tmp 102) rfl gv2 #[.int .i64 qr, .int .i64 qn, .slice gy K1 cy] (by kernel_rfl) (by kernel_rfl) 26 _ rG2 ac3k rfl (by simp [Value.oneCell']) ⟨oBelow_rowP eG2 hgle2 _, ?_⟩)
          have eS4 := oBelow_rowP eG2 hgle2 (#[.int .i64 qr, .int .i64 qn, .slice gy K1 cy])
          have rS4 := setRow_heap _ gv2 _ (#[.int .i64 qr, .int .i64 qn, .slice gy K1 cy]) 26 _ rG2
          have oy35 := Ov.otherRow oy3 rG2 ballotNe (#[.int .i64 qr, .int .i64 qn, .slice gy K1 cy])
          refine heldTake (i := 24) 15 (v := .int .i64 E1) rfl rfl (by kernel_rfl) (by kernel_rfl) (by kernel_rfl) (fun _ _ _ h => h) (Or.inl ⟨by rfl, fun _ _ => by kernel_rfl⟩) eS4 ?_
          simp only [Act.put, List.setIfInBounds_toArray, List.set_cons_zero, List.set_cons_succ]
          exact wpAnyH_done (by kernel_rfl) (HK2.out gv2 gy cy _ ⟨rS4, oy35, n5, eS4, hgle2⟩) _
        · obtain ⟨gv6, hgv6⟩ : ∃ g, g = V0.drew.heap.size := ⟨_, rfl⟩
          have aG6 : Below V0.drew.heap.size V0.drew (V0.drew.alloc (.cells #[.int .i64 0, .int .i64 0, .slice none 0 0] 26)) := (Below.refl _ _).alloc (Nat.le_refl _) _
          have eG6 : Below V0.heap.size V0 (V0.drew.alloc (.cells #[.int .i64 0, .int .i64 0, .slice none 0 0] 26)) := ed.trans (aG6.mono ed.size)
          have rG6 : (V0.drew.alloc (.cells #[.int .i64 0, .int .i64 0, .slice none 0 0] 26)).heap[gv6]? = some (.cells #[.int .i64 0, .int .i64 0, .slice none 0 0] 26) := by rw [hgv6]; exact heap_alloc_new _ _
          have hgle6 : V0.heap.size ≤ gv6 := by rw [hgv6]; exact ed.size
          refine (opRun (i := 22) (d := 14) (v := .pointer (some ⟨gv6, 0, none⟩)) (w' := V0.drew.alloc (.cells #[.int .i64 0, .int .i64 0, .slice none 0 0] 26)) rfl (by kernel_rfl) rfl (by rw [hgv6]; kernel_rfl) ⟨eG6, ?_⟩)
          simp only [Act.put, List.setIfInBounds_toArray, List.set_cons_zero, List.set_cons_succ]
          refine heldOne (i := 18) (by kernel_rfl) (opCall (i := 18) (d := 101) (f := 16) (args := #[.agg (acA (node n).p (ys n)), .agg #[.int .i64 (s : Int), .int .i64 B.bal.r, .int .i64 B.bal.n, .int .i64 c.k, .int .i64 c.c, .int .i64 c.s, .int .i64 c.n, .int .i64 c.v]]) rfl (by kernel_rfl) rfl (by kernel_rfl) ((accept_own (node n).p (ys n) (node n).vs ⟨(s : Int), B.bal, c⟩ _ (hsv.below eG6) (t0.below eG6)).mono ?_))
          rintro e' wc7 ⟨y5, rfl, oy5, n5, bc7⟩
          have ec7 : Below V0.heap.size V0 wc7 := eG6.trans (bc7.mono eG6.size)
          rw [show accP ⟨(node n).p, (node n).vs⟩ ⟨(s : Int), B.bal, c⟩ = ⟨qr, qn⟩ from HP1.out.1, show votE ⟨(node n).p, (node n).vs⟩ ⟨(s : Int), B.bal, c⟩ = E1 from HP1.out.2.2]
          rw [show accL ⟨(node n).p, (node n).vs⟩ ⟨(s : Int), B.bal, c⟩ = L1 from HP1.out.2.1] at oy5 n5
          obtain ⟨gy, cy, hy5⟩ := ownsV_shape oy5
          rw [HK1.out] at hy5
          subst hy5
          have oy := Ov.of oy5
          simp only [acA]
          have rg7 := (bc7.block _ (Array.getElem?_eq_some_iff.1 rG6).1).trans rG6
          refine ⟨_, rfl, ec7, ?_⟩
          simp only [Act.put, List.setIfInBounds_toArray, List.set_cons_zero, List.set_cons_succ]
          refine heldTake (i := 19) 82 (v := .tuple #[.agg #[.int .i64 qr, .int .i64 qn, .slice gy K1 cy], .int .i64 E1]) rfl rfl (by kernel_rfl) (by kernel_rfl) (by kernel_rfl) (fun _ _ _ h => h) (Or.inl ⟨by rfl, fun _ _ => by kernel_rfl⟩) ec7 ?_
          simp only [Act.put, List.setIfInBounds_toArray, List.set_cons_zero, List.set_cons_succ]
          refine heldTake (i := 20) 102 (v := .agg #[.int .i64 qr, .int .i64 qn, .slice gy K1 cy]) rfl rfl (by kernel_rfl) (by kernel_rfl) (by kernel_rfl) (fun _ _ _ h => h) (Or.inl ⟨by rfl, fun _ _ => by kernel_rfl⟩) ec7 ?_
          simp only [Act.put, List.setIfInBounds_toArray, List.set_cons_zero, List.set_cons_succ]
          refine heldTake (i := 21) 103 (v := .int .i64 E1) rfl rfl (by kernel_rfl) (by kernel_rfl) (by kernel_rfl) (fun _ _ _ h => h) (Or.inl ⟨by rfl, fun _ _ => by kernel_rfl⟩) ec7 ?_
          simp only [Act.put, List.setIfInBounds_toArray, List.set_cons_zero, List.set_cons_succ]
          refine heldOne (i := 23) (by kernel_rfl) (opStore (i := 23) rfl (by kernel_rfl) rfl 26 (.tmp 14) (.tmp 102) rfl gv6 #[.int .i64 qr, .int .i64 qn, .slice gy K1 cy] (by kernel_rfl) (by kernel_rfl) 26 _ rg7 ac3k rfl (by simp [Value.oneCell']) ⟨oBelow_rowP ec7 hgle6 _, ?_⟩)
          have eS8 := oBelow_rowP ec7 hgle6 (#[.int .i64 qr, .int .i64 qn, .slice gy K1 cy])
          have rS8 := setRow_heap _ gv6 _ (#[.int .i64 qr, .int .i64 qn, .slice gy K1 cy]) 26 _ rg7
          have oy9 := Ov.otherRow oy rg7 ballotNe (#[.int .i64 qr, .int .i64 qn, .slice gy K1 cy])
          refine heldTake (i := 24) 15 (v := .int .i64 E1) rfl rfl (by kernel_rfl) (by kernel_rfl) (by kernel_rfl) (fun _ _ _ h => h) (Or.inl ⟨by rfl, fun _ _ => by kernel_rfl⟩) eS8 ?_
          simp only [Act.put, List.setIfInBounds_toArray, List.set_cons_zero, List.set_cons_succ]
          exact wpAnyH_done (by kernel_rfl) (HK2.out gv6 gy cy _ ⟨rS8, oy9, n5, eS8, hgle6⟩) _
      · rintro gA gy cy V ⟨qA, oy, hVL0, bV, hgA⟩
        have s1 := s0.below bV
        have d1 : Below m w V := d0.trans (bV.mono (Nat.le_of_lt hml))
        have t1 := t0.below bV
        have hrg := pRange bV hgl hrb
        rcases vot_two (HI.out.acc hn5) (HI.out.vtMay hbk hw) with ⟨f1, f2, f3, f4⟩ | ⟨f1, f2, f3, f4⟩
        · have e1 : E1 = 7 := by rw [← HP1.out.2.2]; exact f1
          subst e1
          clear f1 f2 f3 f4 HP1 HK1
          go_wp2
          (try simp only [Exit.inBlock, Exit.then])
          refine bodyPost_ret (results_none rfl _ _ _) rfl ?_
          exact ⟨rfl, _, _, _, _, s1, HI.out, by show rounds ≤ rounds + 1; omega, d1⟩
        · have e1 : E1 = 0 := by rw [← HP1.out.2.2]; exact f1
          have e2 : (⟨qr, qn⟩ : Bal) = B.bal := by rw [← HP1.out.1]; exact f2
          have e3 : L1 = (insV (node n).vs ⟨(s : Int), B.bal, c⟩) := by rw [← HP1.out.2.1]; exact f3
          obtain rfl : qr = B.bal.r := by rw [← e2]
          obtain rfl : qn = B.bal.n := by rw [← e2]
          subst e1
          rw [e3] at oy hVL0
          have HJ : Hid (MInv ⟨upN node n ⟨B.bal, (insV (node n).vs ⟨(s : Int), B.bal, c⟩)⟩, bid, rounds, ch⟩) := HI.out.vote hbk hn5 hw f4
          have hVL : (insV (node n).vs ⟨(s : Int), B.bal, c⟩).length ≤ 40 := hVL0
          have hrA : V.rangeAt gA 0 [.int .i64 B.bal.r, .int .i64 B.bal.n] := range2 (cell_of_row _ _ 0 _ _ _ qA) (cell_of_row _ _ 1 _ _ _ qA)
          clear f1 f2 f3 f4 HP1 HK1 e2 e3 hVL0
          go_wp2_with fail
          have cF : V.cell? ⟨m, 37, none⟩ = some (.bool true) := by rw [s1.mb.cell (by omega), s1.mf.fi]
          have heb := eql_bal B.bal.r B.bal.n B.bal.r B.bal.n
          rw [decide_eq_true ⟨rfl, rfl⟩] at heb
          apply p_merge (fun W2 => Only m V W2 ∧ St W2 m ⟨node, bid, rounds, ch⟩ (updF f 37 [.bool true]) ys bs)
          · intro K2 HK2
            refine wp_region_held (S := fun w' => w'.cell? ⟨m, 37, none⟩ = some (.bool true) ∧ Only m V w') (by kernel_rfl) ?_
            have hS0 : (fun w' : World => w'.cell? ⟨m, 37, none⟩ = some (.bool true) ∧ Only m V w') V.drew := ⟨cF, (Only.refl _ _).drew⟩
            refine heldTake (i := 0) 106 (v := .pointer (some ⟨m, 0, none⟩)) rfl rfl (by kernel_rfl) (by kernel_rfl) (by kernel_rfl) (fun _ _ _ h => h) (Or.inl ⟨by rfl, fun _ _ => by kernel_rfl⟩) hS0 ?_
            simp only [Act.put, List.setIfInBounds_toArray, List.set_cons_zero, List.set_cons_succ]
            refine heldTake (i := 1) 107 (v := .pointer (some ⟨m, 0, none⟩)) rfl rfl (by kernel_rfl) (by kernel_rfl) (by kernel_rfl) (fun _ _ _ h => h) (Or.inl ⟨by rfl, fun _ _ => by kernel_rfl⟩) hS0 ?_
            simp only [Act.put, List.setIfInBounds_toArray, List.set_cons_zero, List.set_cons_succ]
            refine heldTake (i := 2) 108 (v := .pointer (some ⟨m, 0, none⟩)) rfl rfl (by kernel_rfl) (by kernel_rfl) (by kernel_rfl) (fun _ _ _ h => h) (Or.inl ⟨by rfl, fun _ _ => by kernel_rfl⟩) hS0 ?_
            simp only [Act.put, List.setIfInBounds_toArray, List.set_cons_zero, List.set_cons_succ]
            refine heldTake (i := 3) 109 (v := .pointer (some ⟨m, 37, none⟩)) rfl rfl (by kernel_rfl) (by kernel_rfl) (by kernel_rfl) (fun _ _ _ h => h) (Or.inl ⟨by rfl, fun _ _ => by kernel_rfl⟩) hS0 ?_
            simp only [Act.put, List.setIfInBounds_toArray, List.set_cons_zero, List.set_cons_succ]
            refine heldTake (i := 4) 110 (v := .bool true) rfl rfl (by kernel_rfl) (by kernel_rfl) (by kernel_rfl) (fun _ _ _ h => h) (yieldCell (by rfl) 4 (.tmp 109) rfl _ Tryd.underlying4 rfl ⟨m, 37, none⟩ rfl (.bool true) (fun w' hw' => hw'.1)) hS0 ?_
            simp only [Act.put, List.setIfInBounds_toArray, List.set_cons_zero, List.set_cons_succ]
            refine heldTake (i := 5) 111 (v := .bool true) rfl rfl (by kernel_rfl) (by kernel_rfl) (by kernel_rfl) (fun _ _ _ h => h) (Or.inl ⟨by rfl, fun _ _ => by kernel_rfl⟩) hS0 ?_
            simp only [Act.put, List.setIfInBounds_toArray, List.set_cons_zero, List.set_cons_succ]
            refine heldTake (i := 6) 112 (v := .int .i64 0) rfl rfl (by kernel_rfl) (by kernel_rfl) (by kernel_rfl) (fun _ _ _ h => h) (Or.inl ⟨by rfl, fun _ _ => by kernel_rfl⟩) hS0 ?_
            simp only [Act.put, List.setIfInBounds_toArray, List.set_cons_zero, List.set_cons_succ]
            refine heldTake (i := 7) 113 (v := .bool true) rfl rfl (by kernel_rfl) (by kernel_rfl) (by kernel_rfl) (fun _ _ _ h => h) (Or.inl ⟨by rfl, fun _ _ => by kernel_rfl⟩) hS0 ?_
            simp only [Act.put, List.setIfInBounds_toArray, List.set_cons_zero, List.set_cons_succ]
            refine heldTake (i := 8) 114 (v := .bool true) rfl rfl (by kernel_rfl) (by kernel_rfl) (by kernel_rfl) (fun _ _ _ h => h) (Or.inl ⟨by rfl, fun _ _ => by kernel_rfl⟩) hS0 ?_
            simp only [Act.put, List.setIfInBounds_toArray, List.set_cons_zero, List.set_cons_succ]
            refine heldTake (i := 9) 115 (v := .bool true) rfl rfl (by kernel_rfl) (by kernel_rfl) (by kernel_rfl) (fun _ _ _ h => h) (Or.inl ⟨by rfl, fun _ _ => by kernel_rfl⟩) hS0 ?_
            simp only [Act.put, List.setIfInBounds_toArray, List.set_cons_zero, List.set_cons_succ]
            refine heldTake (i := 10) 116 (v := .pointer (some ⟨gA, 0, none⟩)) rfl rfl (by kernel_rfl) (by kernel_rfl) (by kernel_rfl) (fun _ _ _ h => h) (Or.inl ⟨by rfl, fun _ _ => by kernel_rfl⟩) hS0 ?_
            simp only [Act.put, List.setIfInBounds_toArray, List.set_cons_zero, List.set_cons_succ]
            refine heldTake (i := 11) 117 (v := .agg (baA B.bal)) rfl rfl (by kernel_rfl) (by kernel_rfl) (by kernel_rfl) (fun _ _ _ h => h) (yieldsIf_load_mid (by rfl) 23 (.tmp 116) rfl gA (0) rfl [.int .i64 B.bal.r, .int .i64 B.bal.n] _ (fun w' hw' => onlyRange hw'.2 (by omega) hrA) Tryd.underlying23 rfl baSize) hS0 ?_
            simp only [Act.put, List.setIfInBounds_toArray, List.set_cons_zero, List.set_cons_succ]
            refine heldTake (i := 12) 118 (v := .pointer (some ⟨g, 0, none⟩)) rfl rfl (by kernel_rfl) (by kernel_rfl) (by kernel_rfl) (fun _ _ _ h => h) (Or.inl ⟨by rfl, fun _ _ => by kernel_rfl⟩) hS0 ?_
            simp only [Act.put, List.setIfInBounds_toArray, List.set_cons_zero, List.set_cons_succ]
            refine heldTake (i := 13) 119 (v := .pointer (some ⟨g, 0, none⟩)) rfl rfl (by kernel_rfl) (by kernel_rfl) (by kernel_rfl) (fun _ _ _ h => h) (Or.inl ⟨by rfl, fun _ _ => by kernel_rfl⟩) hS0 ?_
            simp only [Act.put, List.setIfInBounds_toArray, List.set_cons_zero, List.set_cons_succ]
            refine heldTake (i := 14) 120 (v := .pointer (some ⟨g, 0, none⟩)) rfl rfl (by kernel_rfl) (by kernel_rfl) (by kernel_rfl) (fun _ _ _ h => h) (Or.inl ⟨by rfl, fun _ _ => by kernel_rfl⟩) hS0 ?_
            simp only [Act.put, List.setIfInBounds_toArray, List.set_cons_zero, List.set_cons_succ]
            refine heldTake (i := 15) 121 (v := .agg (baA B.bal)) rfl rfl (by kernel_rfl) (by kernel_rfl) (by kernel_rfl) (fun _ _ _ h => h) (yieldsIf_load_mid (by rfl) 23 (.tmp 120) rfl g (0) rfl [.int .i64 B.bal.r, .int .i64 B.bal.n] _ (fun w' hw' => onlyRange hw'.2 (by omega) hrg) Tryd.underlying23 rfl baSize) hS0 ?_
            simp only [Act.put, List.setIfInBounds_toArray, List.set_cons_zero, List.set_cons_succ]
            refine heldTake (i := 16) 122 (v := .bool true) rfl rfl (by kernel_rfl) (by kernel_rfl) (by kernel_rfl) (fun _ _ _ h => h) (yieldBin (by rfl) .eql 23 23 (.tmp 117) (.tmp 121) rfl _ _ _ rfl rfl (fun _ => by kernel_rfl) heb) hS0 ?_
            simp only [Act.put, List.setIfInBounds_toArray, List.set_cons_zero, List.set_cons_succ]
            refine heldTake (i := 17) 123 (v := .bool true) rfl rfl (by kernel_rfl) (by kernel_rfl) (by kernel_rfl) (fun _ _ _ h => h) (Or.inl ⟨by rfl, fun _ _ => by kernel_rfl⟩) hS0 ?_
            simp only [Act.put, List.setIfInBounds_toArray, List.set_cons_zero, List.set_cons_succ]
            refine heldTake (i := 18) 124 (v := .pointer (some ⟨m, 0, none⟩)) rfl rfl (by kernel_rfl) (by kernel_rfl) (by kernel_rfl) (fun _ _ _ h => h) (Or.inl ⟨by rfl, fun _ _ => by kernel_rfl⟩) hS0 ?_
            simp only [Act.put, List.setIfInBounds_toArray, List.set_cons_zero, List.set_cons_succ]
            refine heldTake (i := 19) 125 (v := .pointer (some ⟨m, 37, none⟩)) rfl rfl (by kernel_rfl) (by kernel_rfl) (by kernel_rfl) (fun _ _ _ h => h) (Or.inl ⟨by rfl, fun _ _ => by kernel_rfl⟩) hS0 ?_
            simp only [Act.put, List.setIfInBounds_toArray, List.set_cons_zero, List.set_cons_succ]
            have O1 : Only m V (V.drew.setCell ⟨m, 37, none⟩ (.bool true)) := ((Only.refl m V).drew).trans (Only.one _ _ _ _)
            have B1 : Blk (V.drew.setCell ⟨m, 37, none⟩ (.bool true)) m 61 38 _ := (s1.mb.keep (w' := V.drew) rfl).one 37 (.bool true)
            refine heldOne (i := 20) (by kernel_rfl) (opStoreOne rfl (by kernel_rfl) rfl 4 (.tmp 125) (.tmp 123) rfl m 37 (.bool true) _ (by kernel_rfl) (by kernel_rfl) cF (s1.mb.frozen 37) boSize rfl ⟨⟨World.cell?_setCell_same _ _ _ cF, O1⟩, ?_⟩)
            exact wpAnyH_done (by kernel_rfl) (HK2 _ ⟨O1, s1.turnM O1 B1 s1.mf.fine s1.ov⟩) _
          · rintro V1 ⟨oF, s2⟩
            have qA2 := (oF.other gA (by omega)).trans qA
            have oyF := Ov.only s1.mb mtNe oF oy
            go_wp2_with fail
            apply p_mergeI0 (fun W2 => Only m V1 W2 ∧ St W2 m ⟨upN node n ⟨B.bal, (insV (node n).vs ⟨(s : Int), B.bal, c⟩)⟩, bid, rounds, ch⟩ (updF (updF f 37 [.bool true]) (3 * n) [.int .i64 B.bal.r, .int .i64 B.bal.n, .slice gy K1 cy]) (upN ys n (.slice gy K1 cy)) bs)
            · intro K2 HK2
              refine wp_region_held (S := fun w' => Only m V1 w') (by kernel_rfl) ?_
              have hS0 : (fun w' : World => Only m V1 w') V1.drew := (Only.refl _ _).drew
              refine heldTake (i := 0) 126 (v := .pointer (some ⟨m, 0, none⟩)) rfl rfl (by kernel_rfl) (by kernel_rfl) (by kernel_rfl) (fun _ _ _ h => h) (Or.inl ⟨by rfl, fun _ _ => by kernel_rfl⟩) hS0 ?_
              simp only [Act.put, List.setIfInBounds_toArray, List.set_cons_zero, List.set_cons_succ]
              refine heldTake (i := 1) 127 (v := .int .i64 (n : Int)) rfl rfl (by kernel_rfl) (by kernel_rfl) (by kernel_rfl) (fun _ _ _ h => h) (Or.inl ⟨by rfl, fun _ _ => by kernel_rfl⟩) hS0 ?_
              simp only [Act.put, List.setIfInBounds_toArray, List.set_cons_zero, List.set_cons_succ]
              refine heldTake (i := 2) 128 (v := .agg #[.int .i64 B.bal.r, .int .i64 B.bal.n, .slice gy K1 cy]) rfl rfl (by kernel_rfl) (by kernel_rfl) (by kernel_rfl) (fun _ _ _ h => h) (yieldRow (by rfl) 26 (.tmp 14) rfl gA rfl 26 _ (fun w' hw' => (hw'.other gA (by omega)).trans qA2) Tryd.underlying26 rfl ac3k) hS0 ?_
              simp only [Act.put, List.setIfInBounds_toArray, List.set_cons_zero, List.set_cons_succ]
              refine heldTake (i := 3) 129 (v := .pointer (some ⟨m, 0, none⟩)) rfl rfl (by kernel_rfl) (by kernel_rfl) (by kernel_rfl) (fun _ _ _ h => h) (Or.inl ⟨by rfl, fun _ _ => by kernel_rfl⟩) hS0 ?_
              simp only [Act.put, List.setIfInBounds_toArray, List.set_cons_zero, List.set_cons_succ]
              refine heldTake (i := 4) 130 (v := .pointer (some ⟨m, 0, none⟩)) rfl rfl (by kernel_rfl) (by kernel_rfl) (by kernel_rfl) (fun _ _ _ h => h) (Or.inl ⟨by rfl, fun _ _ => by kernel_rfl⟩) hS0 ?_
              simp only [Act.put, List.setIfInBounds_toArray, List.set_cons_zero, List.set_cons_succ]
              refine heldTake (i := 5) 131 (v := .pointer (some ⟨m, 3 * n, none⟩)) rfl rfl (by kernel_rfl) (by kernel_rfl) (by kernel_rfl) (fun _ _ _ h => h) (yieldIndexArr (by rfl) 55 26 5 3 (.tmp 130) (.tmp 127) rfl Tryd.underlying55 ac3k m 0 n (3 * n) hn5 (by omega) rfl rfl) hS0 ?_
              simp only [Act.put, List.setIfInBounds_toArray, List.set_cons_zero, List.set_cons_succ]
              have O2 : Only m V1 (V1.drew.setCells m (3 * n) [.int .i64 B.bal.r, .int .i64 B.bal.n, .slice gy K1 cy]) := ((Only.refl m V1).drew).trans (Only.store _ _ _ _)
              have B2 : Blk (V1.drew.setCells m (3 * n) [.int .i64 B.bal.r, .int .i64 B.bal.n, .slice gy K1 cy]) m 61 38 _ := (s2.mb.keep (w' := V1.drew) rfl).store (3 * n) [.int .i64 B.bal.r, .int .i64 B.bal.n, .slice gy K1 cy]
              refine heldOne (i := 6) (by kernel_rfl) (opStoreMid rfl (by kernel_rfl) rfl 26 (.tmp 131) (.tmp 128) rfl m (3 * n) #[.int .i64 B.bal.r, .int .i64 B.bal.n, .slice gy K1 cy] (by kernel_rfl) (by kernel_rfl) ((s2.mb.keep (w' := V1.drew) rfl).there (by show 3 * n + 3 ≤ 38; omega)) ac3k (by simp [Value.oneCell']) ⟨O2, ?_⟩)
              exact wpAnyH_done (by kernel_rfl) (HK2 _ ⟨O2, s2.vote O2 hn5 B.bal (insV (node n).vs ⟨(s : Int), B.bal, c⟩) (.slice gy K1 cy) B2 oyF hVL⟩) _
            · rintro V2 ⟨oN, s3⟩
              have d3 := (d1.trans (oF.below (Nat.le_refl _))).trans (oN.below (Nat.le_refl _))
              have t3 := (t1.low hm (oF.below (Nat.le_refl _))).low hm (oN.below (Nat.le_refl _))
              clear s1 s2 oF oN oyF qA qA2 hrA cF heb hrg d1 t1
              go_wp2_with fail
              refine (look_any V2 m _ _ _ _ s3 HJ.out t3 hm).mono ?_
              rintro e w9 ⟨rfl, ch9, f9, s9, i9, b9⟩
              go_wp2
              go_end0
              exact ⟨rfl, _, _, _, _, s9, i9, by show rounds ≤ rounds + 1; omega, d3.trans b9⟩
end Go.Proofs.YticjofjghpdmpaaDoor
