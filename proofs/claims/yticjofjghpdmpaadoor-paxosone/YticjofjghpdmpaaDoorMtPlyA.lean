/-
  The walk of a ply: a proposer begins a ballot.
-/
import Derived.Test.YticjofjghpdmpaaDoorMtPre
namespace Go.Proofs.YticjofjghpdmpaaDoor
open Go.RowKit
set_option linter.unusedVariables false

set_option maxHeartbeats 4000000 in
set_option maxRecDepth 100000 in
theorem play_begin0 (w : World) (m : Nat) (node : Nat → Acc) (bid : Nat → Option Bid) (rounds : Int) (ch : Nat → Option Cmd) (f ys : Nat → Value) (bs : Nat → Option Nat) (h : St w m ⟨node, bid, rounds, ch⟩ f ys bs) (hI : MInv ⟨node, bid, rounds, ch⟩) (hr : rounds < 65000) (ht : NTab w) (hm : 0 < m)
    (pk pc ps pn pv : Int) (ik : I64 pk) (ic : I64 pc) (is : I64 ps) (in4 : I64 pn) (iv : I64 pv) (n k kd : Nat) (hn : pick pc 5 = (n : Int)) (hn5 : n < 5) (hk : pick ps 3 = (k : Int)) (hk3 : k < 3) (hkd : pick pk 12 = (kd : Int)) (hkd2 : kd < 12) (hbk : bid k = none) :
    Calls Tryd.prog 24 #[.pointer (some ⟨m, 0, none⟩), .agg #[.int .i64 pk, .int .i64 pc, .int .i64 ps, .int .i64 pn, .int .i64 pv]] w fun e w' => e = .returned (.tuple #[]) ∧ Res w m rounds w' := by
  have HI : Hid (MInv ⟨node, bid, rounds, ch⟩) := hI
  have hr0 : 0 ≤ rounds := by obtain ⟨H, h0⟩ := hI; exact h0.r0
  clear hI
  have HT : Hid (NTab w) := ht
  have bb : Below w.heap.size w (w.alloc (.cells #[.int .i64 pk, .int .i64 pc, .int .i64 ps, .int .i64 pn, .int .i64 pv] 64)) := (Below.refl _ _).alloc (Nat.le_refl _) _
  have rr := heap_alloc_new w (.cells #[.int .i64 pk, .int .i64 pc, .int .i64 ps, .int .i64 pn, .int .i64 pv] 64)
  generalize hW0 : w.alloc (.cells #[.int .i64 pk, .int .i64 pc, .int .i64 ps, .int .i64 pn, .int .i64 pv] 64) = W0 at bb rr
  go_enter Tryd.func24, Tryd.ntmps24
  go_upto_region 1 with fail
  clear hW0
  have h0 := h.below bb
  have t0 := ht.below bb
  have d0 : Below m w W0 := bb.mono (Nat.le_of_lt h.mb.lt)
  have hgm : m < w.heap.size := h.mb.lt
  have lP : w.heap.size < W0.heap.size := (Array.getElem?_eq_some_iff.1 rr).1
  obtain ⟨gP, hgP⟩ : ∃ g, g = w.heap.size := ⟨_, rfl⟩
  rw [← hgP] at rr hgm lP ⊢
  clear hgP bb ht
  have p0 : W0.cell? ⟨gP, 0, none⟩ = some (.int .i64 pk) := cell_of_row _ _ 0 _ _ _ rr
  have p1 : W0.cell? ⟨gP, 1, none⟩ = some (.int .i64 pc) := cell_of_row _ _ 1 _ _ _ rr
  have p2 : W0.cell? ⟨gP, 2, none⟩ = some (.int .i64 ps) := cell_of_row _ _ 2 _ _ _ rr
  have p3 : W0.cell? ⟨gP, 3, none⟩ = some (.int .i64 pn) := cell_of_row _ _ 3 _ _ _ rr
  have p4 : W0.cell? ⟨gP, 4, none⟩ = some (.int .i64 pv) := cell_of_row _ _ 4 _ _ _ rr
  go_wp2_with fail
  refine (ic.picked 5 _ (by omega) (by omega)).mono ?_
  rintro e wq ⟨rfl, hwq⟩
  replace hwq := hwq.symm
  subst hwq
  rw [hn]
  go_wp2_with fail
  refine (is.picked 3 _ (by omega) (by omega)).mono ?_
  rintro e wq ⟨rfl, hwq⟩
  replace hwq := hwq.symm
  subst hwq
  rw [hk]
  have hib := runIndexArr 57 56 3 1 Tryd.underlying57 ptrSize m 15 k hk3
  rw [Nat.one_mul] at hib
  have cb : W0.cell? ⟨m, 15 + k, none⟩ = some (.pointer none) := by rw [h0.mb.cell (show 15 + k < 38 by omega), h0.mf.bp k hk3, h0.bn k hk3 hbk]; rfl
  go_wp2_with fail
  refine (ik.picked 12 _ (by omega) (by omega)).mono ?_
  rintro e wq ⟨rfl, hwq⟩
  replace hwq := hwq.symm
  subst hwq
  rw [hkd]
  have hz : ((kd : Int) = 0) ∨ ¬ ((kd : Int) = 0) := Classical.em _
  rcases hz with hz | hz
  all_goals
    have c18 : W0.cell? ⟨m, 18, none⟩ = some (.int .i64 rounds) := by rw [h0.mb.cell (by omega), h0.mf.rd]
    have f18 := h0.mb.frozen 18
    go_wp2_with ((with_reducible (refine pxLook ?_)); (refine wpList_store_one rfl 3 (.tmp 147) _ rfl m 18 (.int .i64 (rounds + 1)) _ rfl rfl c18 f18 inSize rfl ?_))
    have O1 := Only.one W0 m 18 (.int .i64 (rounds + 1))
    have B1 := h0.mb.one 18 (.int .i64 (rounds + 1))
    have s1 := h0.turnM O1 B1 (h0.mf.roundUp (rounds + 1)) h0.ov
    have d1 := d0.trans (O1.below (Nat.le_refl _))
    have t1 := t0.low hm (O1.below (Nat.le_refl _))
    have c1 : (W0.setCell ⟨m, 18, none⟩ (.int .i64 (rounds + 1))).cell? ⟨m, 18, none⟩ = some (.int .i64 (rounds + 1)) := World.cell?_setCell_same _ _ _ c18
    generalize W0.setCell ⟨m, 18, none⟩ (.int .i64 (rounds + 1)) = V at s1 d1 t1 c1 ⊢
    clear O1 B1 c18 f18 h0 t0 d0 rr p0 p1 p2 p3 p4 lP h
    simp only [Act.put]
    apply p_mergeGI (fun g W2 => (∃ f' bs', St W2 m ⟨node, upN bid k (some ⟨⟨rounds + 1, (n : Int)⟩, fun _ => none, fun _ => none⟩), rounds + 1, ch⟩ f' ys bs') ∧ Below m w W2 ∧ Below m V W2)
    · intro K2 HK2
      refine wp_region_held (S := fun w' => w'.cell? ⟨m, 18, none⟩ = some (.int .i64 (rounds + 1))) (by kernel_rfl) ?_
      have hS0 : (fun w' : World => w'.cell? ⟨m, 18, none⟩ = some (.int .i64 (rounds + 1))) V.drew := c1
      refine heldTake (i := 0) 148 (v := .pointer (some ⟨m, 0, none⟩)) rfl rfl (by kernel_rfl) (by kernel_rfl) (by kernel_rfl) (fun _ _ _ h => h) (Or.inl ⟨by rfl, fun _ _ => by kernel_rfl⟩) hS0 ?_
      simp only [Act.put, List.setIfInBounds_toArray, List.set_cons_zero, List.set_cons_succ]
      refine heldTake (i := 1) 149 (v := .int .i64 (k : Int)) rfl rfl (by kernel_rfl) (by kernel_rfl) (by kernel_rfl) (fun _ _ _ h => h) (Or.inl ⟨by rfl, fun _ _ => by kernel_rfl⟩) hS0 ?_
      simp only [Act.put, List.setIfInBounds_toArray, List.set_cons_zero, List.set_cons_succ]
      refine heldTake (i := 2) 150 (v := .pointer (some ⟨m, 0, none⟩)) rfl rfl (by kernel_rfl) (by kernel_rfl) (by kernel_rfl) (fun _ _ _ h => h) (Or.inl ⟨by rfl, fun _ _ => by kernel_rfl⟩) hS0 ?_
      simp only [Act.put, List.setIfInBounds_toArray, List.set_cons_zero, List.set_cons_succ]
      refine heldTake (i := 3) 151 (v := .pointer (some ⟨m, 0, none⟩)) rfl rfl (by kernel_rfl) (by kernel_rfl) (by kernel_rfl) (fun _ _ _ h => h) (Or.inl ⟨by rfl, fun _ _ => by kernel_rfl⟩) hS0 ?_
      simp only [Act.put, List.setIfInBounds_toArray, List.set_cons_zero, List.set_cons_succ]
      refine heldTake (i := 4) 152 (v := .pointer (some ⟨m, 18, none⟩)) rfl rfl (by kernel_rfl) (by kernel_rfl) (by kernel_rfl) (fun _ _ _ h => h) (Or.inl ⟨by rfl, fun _ _ => by kernel_rfl⟩) hS0 ?_
      simp only [Act.put, List.setIfInBounds_toArray, List.set_cons_zero, List.set_cons_succ]
      refine heldTake (i := 5) 153 (v := .int .i64 (rounds + 1)) rfl rfl (by kernel_rfl) (by kernel_rfl) (by kernel_rfl) (fun _ _ _ h => h) (yieldCell (by rfl) 3 (.tmp 152) rfl _ Tryd.underlying3 rfl ⟨m, 18, none⟩ rfl (.int .i64 (rounds + 1)) (fun w' hw' => hw')) hS0 ?_
      simp only [Act.put, List.setIfInBounds_toArray, List.set_cons_zero, List.set_cons_succ]
      refine heldTake (i := 6) 154 (v := .int .i64 (n : Int)) rfl rfl (by kernel_rfl) (by kernel_rfl) (by kernel_rfl) (fun _ _ _ h => h) (Or.inl ⟨by rfl, fun _ _ => by kernel_rfl⟩) hS0 ?_
      simp only [Act.put, List.setIfInBounds_toArray, List.set_cons_zero, List.set_cons_succ]
      refine heldTake (i := 7) 155 (v := .agg #[.int .i64 (rounds + 1), .int .i64 (n : Int)]) rfl rfl (by kernel_rfl) (by kernel_rfl) (by kernel_rfl) (fun _ _ _ h => h) (Or.inl ⟨by rfl, fun _ _ => by kernel_rfl⟩) hS0 ?_
      simp only [Act.put, List.setIfInBounds_toArray, List.set_cons_zero, List.set_cons_succ]
      refine heldTake (i := 8) 156 (v := .agg (newB (rounds + 1) (n : Int))) rfl rfl (by kernel_rfl) (by kernel_rfl) (by kernel_rfl) (fun _ _ _ h => h) (Or.inl ⟨by rfl, fun _ _ => by kernel_rfl⟩) hS0 ?_
      simp only [Act.put, List.setIfInBounds_toArray, List.set_cons_zero, List.set_cons_succ]
      refine heldTake (i := 10) 158 (v := .pointer (some ⟨m, 0, none⟩)) rfl rfl (by kernel_rfl) (by kernel_rfl) (by kernel_rfl) (fun _ _ _ h => h) (Or.inl ⟨by rfl, fun _ _ => by kernel_rfl⟩) hS0 ?_
      simp only [Act.put, List.setIfInBounds_toArray, List.set_cons_zero, List.set_cons_succ]
      refine heldTake (i := 11) 159 (v := .pointer (some ⟨m, 15, none⟩)) rfl rfl (by kernel_rfl) (by kernel_rfl) (by kernel_rfl) (fun _ _ _ h => h) (Or.inl ⟨by rfl, fun _ _ => by kernel_rfl⟩) hS0 ?_
      simp only [Act.put, List.setIfInBounds_toArray, List.set_cons_zero, List.set_cons_succ]
      obtain ⟨gv, hgv⟩ : ∃ g, g = V.drew.heap.size := ⟨_, rfl⟩
      have aG : Below V.heap.size V (V.drew.alloc (.cells (newB (rounds + 1) (n : Int)) 77)) := ((Below.refl _ _).drew).alloc (Nat.le_refl _) _
      have rG : (V.drew.alloc (.cells (newB (rounds + 1) (n : Int)) 77)).heap[gv]? = some (.cells (newB (rounds + 1) (n : Int)) 77) := by rw [hgv]; exact heap_alloc_new _ _
      have hS1 : (V.drew.alloc (.cells (newB (rounds + 1) (n : Int)) 77)).cell? ⟨m, 18, none⟩ = some (.int .i64 (rounds + 1)) := (aG.cell (p := ⟨m, 18, none⟩) s1.mb.lt).trans c1
      refine heldOne (i := 9) (by kernel_rfl) (opRun (i := 9) (d := 157) (v := .pointer (some ⟨gv, 0, none⟩)) (w' := V.drew.alloc (.cells (newB (rounds + 1) (n : Int)) 77)) rfl (by kernel_rfl) rfl (by rw [hgv]; kernel_rfl) ⟨hS1, ?_⟩)
      simp only [Act.put, List.setIfInBounds_toArray, List.set_cons_zero, List.set_cons_succ]
      refine heldTake (i := 12) 160 (v := .pointer (some ⟨m, 15 + k, none⟩)) rfl rfl (by kernel_rfl) (by kernel_rfl) (by kernel_rfl) (fun _ _ _ h => h) (yieldIndexArr (by rfl) 57 56 3 1 (.tmp 159) (.tmp 149) rfl Tryd.underlying57 ptrSize m 15 k (15 + k) hk3 (by omega) rfl rfl) hS1 ?_
      simp only [Act.put, List.setIfInBounds_toArray, List.set_cons_zero, List.set_cons_succ]
      have s2 := s1.below aG
      have cb2 := s2.mb.cell (show 15 + k < 38 by omega)
      have fb2 := s2.mb.frozen (15 + k)
      refine heldOne (i := 13) (by kernel_rfl) (opStoreOne rfl (by kernel_rfl) rfl 56 (.tmp 160) (.tmp 157) rfl m (15 + k) (.pointer (some ⟨gv, 0, none⟩)) _ (by kernel_rfl) (by kernel_rfl) cb2 fb2 ptrSize rfl ⟨cell_setCell_ne hS1 (by omega), ?_⟩)
      have O3 := Only.one (V.drew.alloc (.cells (newB (rounds + 1) (n : Int)) 77)) m (15 + k) (.pointer (some ⟨gv, 0, none⟩))
      have B3 := s2.mb.one (15 + k) (.pointer (some ⟨gv, 0, none⟩))
      have s3 := s1.turnN hk3 aG (Nat.le_of_eq hgv.symm) ((Array.getElem?_eq_some_iff.1 rG).1) (BidAt.new _ gv (rounds + 1) (n : Int) rG) O3 B3 (s1.mf.bidder hk3 gv)
      have d3 : Below m V ((V.drew.alloc (.cells (newB (rounds + 1) (n : Int)) 77)).setCell ⟨m, 15 + k, none⟩ (.pointer (some ⟨gv, 0, none⟩))) := (aG.mono (Nat.le_of_lt s1.mb.lt)).trans (O3.below (Nat.le_refl _))
      exact wpAnyH_done (by kernel_rfl) (HK2 gv _ ⟨⟨_, _, s3⟩, d1.trans d3, d3⟩) _
    · rintro g9 V2 ⟨⟨f2, bs2, s2⟩, d2, d3⟩
      have t2 := t1.low hm d3
      have HJ : Hid (MInv ⟨node, upN bid k (some ⟨⟨rounds + 1, (n : Int)⟩, fun _ => none, fun _ => none⟩), rounds + 1, ch⟩) := HI.out.begin k n hn5 (by show rounds < 65536; omega)
      clear s1 d1 t1 c1 d3 HI
      go_wp2_with fail
      refine (look_any V2 m _ _ _ _ s2 HJ.out t2 hm).mono ?_
      rintro e w9 ⟨rfl, ch9, f9, s9, i9, b9⟩
      go_wp2
      go_end0
      exact ⟨rfl, _, _, _, _, s9, i9, by show rounds + 1 ≤ rounds + 1; omega, d2.trans b9⟩
set_option maxHeartbeats 4000000 in
set_option maxRecDepth 100000 in
theorem play_begin1 (w : World) (m : Nat) (node : Nat → Acc) (bid : Nat → Option Bid) (rounds : Int) (ch : Nat → Option Cmd) (f ys : Nat → Value) (bs : Nat → Option Nat) (h : St w m ⟨node, bid, rounds, ch⟩ f ys bs) (hI : MInv ⟨node, bid, rounds, ch⟩) (hr : rounds < 65000) (ht : NTab w) (hm : 0 < m)
    (pk pc ps pn pv : Int) (ik : I64 pk) (ic : I64 pc) (is : I64 ps) (in4 : I64 pn) (iv : I64 pv) (n k kd : Nat) (hn : pick pc 5 = (n : Int)) (hn5 : n < 5) (hk : pick ps 3 = (k : Int)) (hk3 : k < 3) (hkd : pick pk 12 = (kd : Int)) (hkd2 : kd < 12) (hz : kd = 0) :
    Calls Tryd.prog 24 #[.pointer (some ⟨m, 0, none⟩), .agg #[.int .i64 pk, .int .i64 pc, .int .i64 ps, .int .i64 pn, .int .i64 pv]] w fun e w' => e = .returned (.tuple #[]) ∧ Res w m rounds w' := by
  subst hz
  have HI : Hid (MInv ⟨node, bid, rounds, ch⟩) := hI
  have hr0 : 0 ≤ rounds := by obtain ⟨H, h0⟩ := hI; exact h0.r0
  clear hI
  have HT : Hid (NTab w) := ht
  have bb : Below w.heap.size w (w.alloc (.cells #[.int .i64 pk, .int .i64 pc, .int .i64 ps, .int .i64 pn, .int .i64 pv] 64)) := (Below.refl _ _).alloc (Nat.le_refl _) _
  have rr := heap_alloc_new w (.cells #[.int .i64 pk, .int .i64 pc, .int .i64 ps, .int .i64 pn, .int .i64 pv] 64)
  generalize hW0 : w.alloc (.cells #[.int .i64 pk, .int .i64 pc, .int .i64 ps, .int .i64 pn, .int .i64 pv] 64) = W0 at bb rr
  go_enter Tryd.func24, Tryd.ntmps24
  go_upto_region 1 with fail
  clear hW0
  have h0 := h.below bb
  have t0 := ht.below bb
  have d0 : Below m w W0 := bb.mono (Nat.le_of_lt h.mb.lt)
  have hgm : m < w.heap.size := h.mb.lt
  have lP : w.heap.size < W0.heap.size := (Array.getElem?_eq_some_iff.1 rr).1
  obtain ⟨gP, hgP⟩ : ∃ g, g = w.heap.size := ⟨_, rfl⟩
  rw [← hgP] at rr hgm lP ⊢
  clear hgP bb ht
  have p0 : W0.cell? ⟨gP, 0, none⟩ = some (.int .i64 pk) := cell_of_row _ _ 0 _ _ _ rr
  have p1 : W0.cell? ⟨gP, 1, none⟩ = some (.int .i64 pc) := cell_of_row _ _ 1 _ _ _ rr
  have p2 : W0.cell? ⟨gP, 2, none⟩ = some (.int .i64 ps) := cell_of_row _ _ 2 _ _ _ rr
  have p3 : W0.cell? ⟨gP, 3, none⟩ = some (.int .i64 pn) := cell_of_row _ _ 3 _ _ _ rr
  have p4 : W0.cell? ⟨gP, 4, none⟩ = some (.int .i64 pv) := cell_of_row _ _ 4 _ _ _ rr
  go_wp2_with fail
  refine (ic.picked 5 _ (by omega) (by omega)).mono ?_
  rintro e wq ⟨rfl, hwq⟩
  replace hwq := hwq.symm
  subst hwq
  rw [hn]
  go_wp2_with fail
  refine (is.picked 3 _ (by omega) (by omega)).mono ?_
  rintro e wq ⟨rfl, hwq⟩
  replace hwq := hwq.symm
  subst hwq
  rw [hk]
  have hib := runIndexArr 57 56 3 1 Tryd.underlying57 ptrSize m 15 k hk3
  rw [Nat.one_mul] at hib
  have cb : W0.cell? ⟨m, 15 + k, none⟩ = some (ptrO (bs k)) := by rw [h0.mb.cell (show 15 + k < 38 by omega), h0.mf.bp k hk3]
  unfold ptrO at cb
  generalize hpo : (bs k).map (fun b => (⟨b, 0, none⟩ : Addr)) = po at cb
  clear hpo
  go_wp2_with fail
  refine (ik.picked 12 _ (by omega) (by omega)).mono ?_
  rintro e wq ⟨rfl, hwq⟩
  replace hwq := hwq.symm
  subst hwq
  rw [hkd]
  have c18 : W0.cell? ⟨m, 18, none⟩ = some (.int .i64 rounds) := by rw [h0.mb.cell (by omega), h0.mf.rd]
  have f18 := h0.mb.frozen 18
  go_wp2_with ((with_reducible (refine pxLook ?_)); (refine wpList_store_one rfl 3 (.tmp 147) _ rfl m 18 (.int .i64 (rounds + 1)) _ rfl rfl c18 f18 inSize rfl ?_))
  have O1 := Only.one W0 m 18 (.int .i64 (rounds + 1))
  have B1 := h0.mb.one 18 (.int .i64 (rounds + 1))
  have s1 := h0.turnM O1 B1 (h0.mf.roundUp (rounds + 1)) h0.ov
  have d1 := d0.trans (O1.below (Nat.le_refl _))
  have t1 := t0.low hm (O1.below (Nat.le_refl _))
  have c1 : (W0.setCell ⟨m, 18, none⟩ (.int .i64 (rounds + 1))).cell? ⟨m, 18, none⟩ = some (.int .i64 (rounds + 1)) := World.cell?_setCell_same _ _ _ c18
  generalize W0.setCell ⟨m, 18, none⟩ (.int .i64 (rounds + 1)) = V at s1 d1 t1 c1 ⊢
  clear O1 B1 c18 f18 h0 t0 d0 rr p0 p1 p2 p3 p4 lP h
  simp only [Act.put]
  apply p_mergeGI (fun g W2 => (∃ f' bs', St W2 m ⟨node, upN bid k (some ⟨⟨rounds + 1, (n : Int)⟩, fun _ => none, fun _ => none⟩), rounds + 1, ch⟩ f' ys bs') ∧ Below m w W2 ∧ Below m V W2)
  · intro K2 HK2
    refine wp_region_held (S := fun w' => w'.cell? ⟨m, 18, none⟩ = some (.int .i64 (rounds + 1))) (by kernel_rfl) ?_
    have hS0 : (fun w' : World => w'.cell? ⟨m, 18, none⟩ = some (.int .i64 (rounds + 1))) V.drew := c1
    refine heldTake (i := 0) 148 (v := .pointer (some ⟨m, 0, none⟩)) rfl rfl (by kernel_rfl) (by kernel_rfl) (by kernel_rfl) (fun _ _ _ h => h) (Or.inl ⟨by rfl, fun _ _ => by kernel_rfl⟩) hS0 ?_
    simp only [Act.put, List.setIfInBounds_toArray, List.set_cons_zero, List.set_cons_succ]
    refine heldTake (i := 1) 149 (v := .int .i64 (k : Int)) rfl rfl (by kernel_rfl) (by kernel_rfl) (by kernel_rfl) (fun _ _ _ h => h) (Or.inl ⟨by rfl, fun _ _ => by kernel_rfl⟩) hS0 ?_
    simp only [Act.put, List.setIfInBounds_toArray, List.set_cons_zero, List.set_cons_succ]
    refine heldTake (i := 2) 150 (v := .pointer (some ⟨m, 0, none⟩)) rfl rfl (by kernel_rfl) (by kernel_rfl) (by kernel_rfl) (fun _ _ _ h => h) (Or.inl ⟨by rfl, fun _ _ => by kernel_rfl⟩) hS0 ?_
    simp only [Act.put, List.setIfInBounds_toArray, List.set_cons_zero, List.set_cons_succ]
    refine heldTake (i := 3) 151 (v := .pointer (some ⟨m, 0, none⟩)) rfl rfl (by kernel_rfl) (by kernel_rfl) (by kernel_rfl) (fun _ _ _ h => h) (Or.inl ⟨by rfl, fun _ _ => by kernel_rfl⟩) hS0 ?_
    simp only [Act.put, List.setIfInBounds_toArray, List.set_cons_zero, List.set_cons_succ]
    refine heldTake (i := 4) 152 (v := .pointer (some ⟨m, 18, none⟩)) rfl rfl (by kernel_rfl) (by kernel_rfl) (by kernel_rfl) (fun _ _ _ h => h) (Or.inl ⟨by rfl, fun _ _ => by kernel_rfl⟩) hS0 ?_
    simp only [Act.put, List.setIfInBounds_toArray, List.set_cons_zero, List.set_cons_succ]
    refine heldTake (i := 5) 153 (v := .int .i64 (rounds + 1)) rfl rfl (by kernel_rfl) (by kernel_rfl) (by kernel_rfl) (fun _ _ _ h => h) (yieldCell (by rfl) 3 (.tmp 152) rfl _ Tryd.underlying3 rfl ⟨m, 18, none⟩ rfl (.int .i64 (rounds + 1)) (fun w' hw' => hw')) hS0 ?_
    simp only [Act.put, List.setIfInBounds_toArray, List.set_cons_zero, List.set_cons_succ]
    refine heldTake (i := 6) 154 (v := .int .i64 (n : Int)) rfl rfl (by kernel_rfl) (by kernel_rfl) (by kernel_rfl) (fun _ _ _ h => h) (Or.inl ⟨by rfl, fun _ _ => by kernel_rfl⟩) hS0 ?_
    simp only [Act.put, List.setIfInBounds_toArray, List.set_cons_zero, List.set_cons_succ]
    refine heldTake (i := 7) 155 (v := .agg #[.int .i64 (rounds + 1), .int .i64 (n : Int)]) rfl rfl (by kernel_rfl) (by kernel_rfl) (by kernel_rfl) (fun _ _ _ h => h) (Or.inl ⟨by rfl, fun _ _ => by kernel_rfl⟩) hS0 ?_
    simp only [Act.put, List.setIfInBounds_toArray, List.set_cons_zero, List.set_cons_succ]
    refine heldTake (i := 8) 156 (v := .agg (newB (rounds + 1) (n : Int))) rfl rfl (by kernel_rfl) (by kernel_rfl) (by kernel_rfl) (fun _ _ _ h => h) (Or.inl ⟨by rfl, fun _ _ => by kernel_rfl⟩) hS0 ?_
    simp only [Act.put, List.setIfInBounds_toArray, List.set_cons_zero, List.set_cons_succ]
    refine heldTake (i := 10) 158 (v := .pointer (some ⟨m, 0, none⟩)) rfl rfl (by kernel_rfl) (by kernel_rfl) (by kernel_rfl) (fun _ _ _ h => h) (Or.inl ⟨by rfl, fun _ _ => by kernel_rfl⟩) hS0 ?_
    simp only [Act.put, List.setIfInBounds_toArray, List.set_cons_zero, List.set_cons_succ]
    refine heldTake (i := 11) 159 (v := .pointer (some ⟨m, 15, none⟩)) rfl rfl (by kernel_rfl) (by kernel_rfl) (by kernel_rfl) (fun _ _ _ h => h) (Or.inl ⟨by rfl, fun _ _ => by kernel_rfl⟩) hS0 ?_
    simp only [Act.put, List.setIfInBounds_toArray, List.set_cons_zero, List.set_cons_succ]
    obtain ⟨gv, hgv⟩ : ∃ g, g = V.drew.heap.size := ⟨_, rfl⟩
    have aG : Below V.heap.size V (V.drew.alloc (.cells (newB (rounds + 1) (n : Int)) 77)) := ((Below.refl _ _).drew).alloc (Nat.le_refl _) _
    have rG : (V.drew.alloc (.cells (newB (rounds + 1) (n : Int)) 77)).heap[gv]? = some (.cells (newB (rounds + 1) (n : Int)) 77) := by rw [hgv]; exact heap_alloc_new _ _
    have hS1 : (V.drew.alloc (.cells (newB (rounds + 1) (n : Int)) 77)).cell? ⟨m, 18, none⟩ = some (.int .i64 (rounds + 1)) := (aG.cell (p := ⟨m, 18, none⟩) s1.mb.lt).trans c1
    refine heldOne (i := 9) (by kernel_rfl) (opRun (i := 9) (d := 157) (v := .pointer (some ⟨gv, 0, none⟩)) (w' := V.drew.alloc (.cells (newB (rounds + 1) (n : Int)) 77)) rfl (by kernel_rfl) rfl (by rw [hgv]; kernel_rfl) ⟨hS1, ?_⟩)
    simp only [Act.put, List.setIfInBounds_toArray, List.set_cons_zero, List.set_cons_succ]
    refine heldTake (i := 12) 160 (v := .pointer (some ⟨m, 15 + k, none⟩)) rfl rfl (by kernel_rfl) (by kernel_rfl) (by kernel_rfl) (fun _ _ _ h => h) (yieldIndexArr (by rfl) 57 56 3 1 (.tmp 159) (.tmp 149) rfl Tryd.underlying57 ptrSize m 15 k (15 + k) hk3 (by omega) rfl rfl) hS1 ?_
    simp only [Act.put, List.setIfInBounds_toArray, List.set_cons_zero, List.set_cons_succ]
    have s2 := s1.below aG
    have cb2 := s2.mb.cell (show 15 + k < 38 by omega)
    have fb2 := s2.mb.frozen (15 + k)
    refine heldOne (i := 13) (by kernel_rfl) (opStoreOne rfl (by kernel_rfl) rfl 56 (.tmp 160) (.tmp 157) rfl m (15 + k) (.pointer (some ⟨gv, 0, none⟩)) _ (by kernel_rfl) (by kernel_rfl) cb2 fb2 ptrSize rfl ⟨cell_setCell_ne hS1 (by omega), ?_⟩)
    have O3 := Only.one (V.drew.alloc (.cells (newB (rounds + 1) (n : Int)) 77)) m (15 + k) (.pointer (some ⟨gv, 0, none⟩))
    have B3 := s2.mb.one (15 + k) (.pointer (some ⟨gv, 0, none⟩))
    have s3 := s1.turnN hk3 aG (Nat.le_of_eq hgv.symm) ((Array.getElem?_eq_some_iff.1 rG).1) (BidAt.new _ gv (rounds + 1) (n : Int) rG) O3 B3 (s1.mf.bidder hk3 gv)
    have d3 : Below m V ((V.drew.alloc (.cells (newB (rounds + 1) (n : Int)) 77)).setCell ⟨m, 15 + k, none⟩ (.pointer (some ⟨gv, 0, none⟩))) := (aG.mono (Nat.le_of_lt s1.mb.lt)).trans (O3.below (Nat.le_refl _))
    exact wpAnyH_done (by kernel_rfl) (HK2 gv _ ⟨⟨_, _, s3⟩, d1.trans d3, d3⟩) _
  · rintro g9 V2 ⟨⟨f2, bs2, s2⟩, d2, d3⟩
    have t2 := t1.low hm d3
    have HJ : Hid (MInv ⟨node, upN bid k (some ⟨⟨rounds + 1, (n : Int)⟩, fun _ => none, fun _ => none⟩), rounds + 1, ch⟩) := HI.out.begin k n hn5 (by show rounds < 65536; omega)
    clear s1 d1 t1 c1 d3 HI
    go_wp2_with fail
    refine (look_any V2 m _ _ _ _ s2 HJ.out t2 hm).mono ?_
    rintro e w9 ⟨rfl, ch9, f9, s9, i9, b9⟩
    go_wp2
    go_end0
    exact ⟨rfl, _, _, _, _, s9, i9, by show rounds + 1 ≤ rounds + 1; omega, d2.trans b9⟩
end Go.Proofs.YticjofjghpdmpaaDoor
/-
  The walk of a ply: a node promises.
-/
namespace Go.Proofs.YticjofjghpdmpaaDoor
open Go.RowKit
set_option linter.unusedVariables false

set_option maxHeartbeats 4000000 in
set_option maxRecDepth 100000 in
theorem play_promise (w : World) (m : Nat) (node : Nat → Acc) (bid : Nat → Option Bid) (rounds : Int) (ch : Nat → Option Cmd) (f ys : Nat → Value) (bs : Nat → Option Nat) (h : St w m ⟨node, bid, rounds, ch⟩ f ys bs) (hI : MInv ⟨node, bid, rounds, ch⟩) (hr : rounds < 65000) (ht : NTab w) (hm : 0 < m)
    (pk pc ps pn pv : Int) (ik : I64 pk) (ic : I64 pc) (is : I64 ps) (in4 : I64 pn) (iv : I64 pv) (n k kd : Nat) (hn : pick pc 5 = (n : Int)) (hn5 : n < 5) (hk : pick ps 3 = (k : Int)) (hk3 : k < 3) (hkd : pick pk 12 = (kd : Int)) (hkd2 : kd < 12) (hk1 : 1 ≤ kd) (hk6 : kd < 6) (B : Bid) (hbk : bid k = some B) :
    Calls Tryd.prog 24 #[.pointer (some ⟨m, 0, none⟩), .agg #[.int .i64 pk, .int .i64 pc, .int .i64 ps, .int .i64 pn, .int .i64 pv]] w fun e w' => e = .returned (.tuple #[]) ∧ Res w m rounds w' := by
  have HI : Hid (MInv ⟨node, bid, rounds, ch⟩) := hI
  have hr0 : 0 ≤ rounds := by obtain ⟨H, h0⟩ := hI; exact h0.r0
  clear hI
  have HT : Hid (NTab w) := ht
  have bb : Below w.heap.size w (w.alloc (.cells #[.int .i64 pk, .int .i64 pc, .int .i64 ps, .int .i64 pn, .int .i64 pv] 64)) := (Below.refl _ _).alloc (Nat.le_refl _) _
  have rr := heap_alloc_new w (.cells #[.int .i64 pk, .int .i64 pc, .int .i64 ps, .int .i64 pn, .int .i64 pv] 64)
  generalize hW0 : w.alloc (.cells #[.int .i64 pk, .int .i64 pc, .int .i64 ps, .int .i64 pn, .int .i64 pv] 64) = W0 at bb rr
  go_enter Tryd.func24, Tryd.ntmps24
  go_upto_region 1 with fail
  clear hW0
  have h0 := h.below bb
  have t0 := ht.below bb
  have d0 : Below m w W0 := bb.mono (Nat.le_of_lt h.mb.lt)
  have hgm : m < w.heap.size := h.mb.lt
  have lP : w.heap.size < W0.heap.size := (Array.getElem?_eq_some_iff.1 rr).1
  obtain ⟨gP, hgP⟩ : ∃ g, g = w.heap.size := ⟨_, rfl⟩
  rw [← hgP] at rr hgm lP ⊢
  clear hgP bb ht
  have p0 : W0.cell? ⟨gP, 0, none⟩ = some (.int .i64 pk) := cell_of_row _ _ 0 _ _ _ rr
  have p1 : W0.cell? ⟨gP, 1, none⟩ = some (.int .i64 pc) := cell_of_row _ _ 1 _ _ _ rr
  have p2 : W0.cell? ⟨gP, 2, none⟩ = some (.int .i64 ps) := cell_of_row _ _ 2 _ _ _ rr
  have p3 : W0.cell? ⟨gP, 3, none⟩ = some (.int .i64 pn) := cell_of_row _ _ 3 _ _ _ rr
  have p4 : W0.cell? ⟨gP, 4, none⟩ = some (.int .i64 pv) := cell_of_row _ _ 4 _ _ _ rr
  go_wp2_with fail
  refine (ic.picked 5 _ (by omega) (by omega)).mono ?_
  rintro e wq ⟨rfl, hwq⟩
  replace hwq := hwq.symm
  subst hwq
  rw [hn]
  go_wp2_with fail
  refine (is.picked 3 _ (by omega) (by omega)).mono ?_
  rintro e wq ⟨rfl, hwq⟩
  replace hwq := hwq.symm
  subst hwq
  rw [hk]
  have hib := runIndexArr 57 56 3 1 Tryd.underlying57 ptrSize m 15 k hk3
  rw [Nat.one_mul] at hib
  obtain ⟨g, hg, HBA0⟩ := h0.bd k hk3 B hbk
  have HBA : Hid (BidAt W0 g B) := HBA0
  clear HBA0
  have HG : Hid (bs k = some g) := hg
  have hgt := h0.gt k g hk3 hg
  have cb : W0.cell? ⟨m, 15 + k, none⟩ = some (.pointer (some ⟨g, 0, none⟩)) := by rw [h0.mb.cell (show 15 + k < 38 by omega), h0.mf.bp k hk3, hg]; rfl
  clear hg
  go_wp2_with fail
  refine (ik.picked 12 _ (by omega) (by omega)).mono ?_
  rintro e wq ⟨rfl, hwq⟩
  replace hwq := hwq.symm
  subst hwq
  rw [hkd]
  have hz : ¬ ((kd : Int) = 0) := by omega
  have hz6 : (kd : Int) < 6 := by omega
  go_wp2_with fail
  refine (ik.picked 12 _ (by omega) (by omega)).mono ?_
  rintro e wq ⟨rfl, hwq⟩
  replace hwq := hwq.symm
  subst hwq
  rw [hkd]
  have hml := h0.mb.lt
  have hgl := (h0.gt k g hk3 HG.out).2
  have hra := h0.nodeAt hn5
  have hrb := HBA.out.balAt
  have hL40 := (h0.ov n hn5).2
  have hsv : Sv W0 (ys n) (node n).vs := Sv.ofOwns (h0.ov n hn5).1 (by have := hL40; simp only at this; omega)
  simp only at hra hL40
  obtain ⟨P1, hP1⟩ : ∃ P1, proP (node n) B.bal = P1 := ⟨_, rfl⟩
  obtain ⟨L1, hL1⟩ : ∃ L1, proL (node n) B.bal = L1 := ⟨_, rfl⟩
  obtain ⟨E1, hE1⟩ : ∃ E1, proE (node n) B.bal = E1 := ⟨_, rfl⟩
  obtain ⟨qr, qn⟩ := P1
  have HP1 : Hid (proP (node n) B.bal = ⟨qr, qn⟩ ∧ proL (node n) B.bal = L1 ∧ proE (node n) B.bal = E1) := ⟨hP1, hL1, hE1⟩
  obtain ⟨K1, hK1⟩ : ∃ K1, L1.length = K1 := ⟨_, rfl⟩
  have HK1 : Hid (L1.length = K1) := hK1
  clear hP1 hL1 hE1 hK1
  clear p0 p1 p2 p3 p4 cb hib rr lP h
  go_wp2_with fail
  apply p_mergeG5 (fun gA gy cy gz cz W2 => W2.heap[gA]? = some (.cells #[.int .i64 qr, .int .i64 qn, .slice gy K1 cy] 26) ∧ Ov W2 (.slice gy K1 cy) L1 ∧ Ov W2 (.slice gz K1 cz) L1 ∧ Below W0.heap.size W0 W2 ∧ W0.heap.size ≤ gA)
  · intro K2 HK2
    have ed : Below W0.heap.size W0 W0.drew := (Below.refl _ _).drew
    refine wp_region_held (S := fun w' => Below W0.heap.size W0 w') (by kernel_rfl) ?_
    refine heldTake (i := 0) 167 (v := .pointer (some ⟨m, 0, none⟩)) rfl rfl (by kernel_rfl) (by kernel_rfl) (by kernel_rfl) (fun _ _ _ h => h) (Or.inl ⟨by rfl, fun _ _ => by kernel_rfl⟩) ed ?_
    simp only [Act.put, List.setIfInBounds_toArray, List.set_cons_zero, List.set_cons_succ]
    refine heldTake (i := 1) 168 (v := .int .i64 (n : Int)) rfl rfl (by kernel_rfl) (by kernel_rfl) (by kernel_rfl) (fun _ _ _ h => h) (Or.inl ⟨by rfl, fun _ _ => by kernel_rfl⟩) ed ?_
    simp only [Act.put, List.setIfInBounds_toArray, List.set_cons_zero, List.set_cons_succ]
    refine heldTake (i := 2) 169 (v := .pointer (some ⟨m, 0, none⟩)) rfl rfl (by kernel_rfl) (by kernel_rfl) (by kernel_rfl) (fun _ _ _ h => h) (Or.inl ⟨by rfl, fun _ _ => by kernel_rfl⟩) ed ?_
    simp only [Act.put, List.setIfInBounds_toArray, List.set_cons_zero, List.set_cons_succ]
    refine heldTake (i := 3) 170 (v := .pointer (some ⟨m, 0, none⟩)) rfl rfl (by kernel_rfl) (by kernel_rfl) (by kernel_rfl) (fun _ _ _ h => h) (Or.inl ⟨by rfl, fun _ _ => by kernel_rfl⟩) ed ?_
    simp only [Act.put, List.setIfInBounds_toArray, List.set_cons_zero, List.set_cons_succ]
    refine heldTake (i := 4) 171 (v := .pointer (some ⟨m, 3 * n, none⟩)) rfl rfl (by kernel_rfl) (by kernel_rfl) (by kernel_rfl) (fun _ _ _ h => h) (yieldIndexArr (by rfl) 55 26 5 3 (.tmp 170) (.tmp 168) rfl Tryd.underlying55 ac3k m 0 n (3 * n) hn5 (by omega) rfl rfl) ed ?_
    simp only [Act.put, List.setIfInBounds_toArray, List.set_cons_zero, List.set_cons_succ]
    refine heldTake (i := 5) 172 (v := .agg (acA (node n).p (ys n))) rfl rfl (by kernel_rfl) (by kernel_rfl) (by kernel_rfl) (fun _ _ _ h => h) (yieldsIf_load_mid (by rfl) 26 (.tmp 171) rfl m (3 * n) rfl [.int .i64 (node n).p.r, .int .i64 (node n).p.n, ys n] _ (fun w' hw' => pRange hw' hml hra) Tryd.underlying26 rfl ac3k) ed ?_
    simp only [Act.put, List.setIfInBounds_toArray, List.set_cons_zero, List.set_cons_succ]
    refine heldTake (i := 6) 173 (v := .pointer (some ⟨g, 0, none⟩)) rfl rfl (by kernel_rfl) (by kernel_rfl) (by kernel_rfl) (fun _ _ _ h => h) (Or.inl ⟨by rfl, fun _ _ => by kernel_rfl⟩) ed ?_
    simp only [Act.put, List.setIfInBounds_toArray, List.set_cons_zero, List.set_cons_succ]
    refine heldTake (i := 7) 174 (v := .pointer (some ⟨g, 0, none⟩)) rfl rfl (by kernel_rfl) (by kernel_rfl) (by kernel_rfl) (fun _ _ _ h => h) (Or.inl ⟨by rfl, fun _ _ => by kernel_rfl⟩) ed ?_
    simp only [Act.put, List.setIfInBounds_toArray, List.set_cons_zero, List.set_cons_succ]
    refine heldTake (i := 8) 175 (v := .pointer (some ⟨g, 0, none⟩)) rfl rfl (by kernel_rfl) (by kernel_rfl) (by kernel_rfl) (fun _ _ _ h => h) (Or.inl ⟨by rfl, fun _ _ => by kernel_rfl⟩) ed ?_
    simp only [Act.put, List.setIfInBounds_toArray, List.set_cons_zero, List.set_cons_succ]
    refine heldTake (i := 9) 176 (v := .agg (baA B.bal)) rfl rfl (by kernel_rfl) (by kernel_rfl) (by kernel_rfl) (fun _ _ _ h => h) (yieldsIf_load_mid (by rfl) 23 (.tmp 175) rfl g (0) rfl [.int .i64 B.bal.r, .int .i64 B.bal.n] _ (fun w' hw' => pRange hw' hgl hrb) Tryd.underlying23 rfl baSize) ed ?_
    simp only [Act.put, List.setIfInBounds_toArray, List.set_cons_zero, List.set_cons_succ]
    refine heldTwo (i := 10) (i' := 15) (by kernel_rfl) ?_ ?_
    · refine (opCall (i := 10) (d := 177) (f := 12) (args := #[.agg (acA (node n).p (ys n)), .agg (baA B.bal)]) rfl (by kernel_rfl) rfl (by kernel_rfl) ((promise_own (node n).p (ys n) (node n).vs B.bal _ (hsv.below ed) (t0.below ed)).mono ?_))
      rintro e' wc1 ⟨y5, z5, rfl, oy5, oz5, bc1⟩
      have ec1 : Below W0.heap.size W0 wc1 := ed.trans (bc1.mono ed.size)
      rw [show proP ⟨(node n).p, (node n).vs⟩ B.bal = ⟨qr, qn⟩ from HP1.out.1, show proE ⟨(node n).p, (node n).vs⟩ B.bal = E1 from HP1.out.2.2]
      rw [show proL ⟨(node n).p, (node n).vs⟩ B.bal = L1 from HP1.out.2.1] at oy5 oz5
      obtain ⟨gy, cy, hy5⟩ := ownsV_shape oy5
      obtain ⟨gz, cz, hz5⟩ := ownsV_shape oz5
      rw [HK1.out] at hy5 hz5
      subst hy5 hz5
      have oy := Ov.of oy5
      have oz := Ov.of oz5
      simp only [acA]
      refine ⟨_, rfl, ec1, ?_⟩
      simp only [Act.put, List.setIfInBounds_toArray, List.set_cons_zero, List.set_cons_succ]
      refine heldTake (i := 11) 166 (v := .tuple #[.agg #[.int .i64 qr, .int .i64 qn, .slice gy K1 cy], .slice gz K1 cz, .int .i64 E1]) rfl rfl (by kernel_rfl) (by kernel_rfl) (by kernel_rfl) (fun _ _ _ h => h) (Or.inl ⟨by rfl, fun _ _ => by kernel_rfl⟩) ec1 ?_
      simp only [Act.put, List.setIfInBounds_toArray, List.set_cons_zero, List.set_cons_succ]
      refine heldTake (i := 12) 178 (v := .agg #[.int .i64 qr, .int .i64 qn, .slice gy K1 cy]) rfl rfl (by kernel_rfl) (by kernel_rfl) (by kernel_rfl) (fun _ _ _ h => h) (Or.inl ⟨by rfl, fun _ _ => by kernel_rfl⟩) ec1 ?_
      simp only [Act.put, List.setIfInBounds_toArray, List.set_cons_zero, List.set_cons_succ]
      refine heldTake (i := 13) 179 (v := .slice gz K1 cz) rfl rfl (by kernel_rfl) (by kernel_rfl) (by kernel_rfl) (fun _ _ _ h => h) (Or.inl ⟨by rfl, fun _ _ => by kernel_rfl⟩) ec1 ?_
      simp only [Act.put, List.setIfInBounds_toArray, List.set_cons_zero, List.set_cons_succ]
      refine heldTake (i := 14) 180 (v := .int .i64 E1) rfl rfl (by kernel_rfl) (by kernel_rfl) (by kernel_rfl) (fun _ _ _ h => h) (Or.inl ⟨by rfl, fun _ _ => by kernel_rfl⟩) ec1 ?_
      simp only [Act.put, List.setIfInBounds_toArray, List.set_cons_zero, List.set_cons_succ]
      obtain ⟨gv2, hgv2⟩ : ∃ g, g = wc1.heap.size := ⟨_, rfl⟩
      have aG2 : Below wc1.heap.size wc1 (wc1.alloc (.cells #[.int .i64 0, .int .i64 0, .slice none 0 0] 26)) := (Below.refl _ _).alloc (Nat.le_refl _) _
      have eG2 : Below W0.heap.size W0 (wc1.alloc (.cells #[.int .i64 0, .int .i64 0, .slice none 0 0] 26)) := ec1.trans (aG2.mono ec1.size)
      have rG2 : (wc1.alloc (.cells #[.int .i64 0, .int .i64 0, .slice none 0 0] 26)).heap[gv2]? = some (.cells #[.int .i64 0, .int .i64 0, .slice none 0 0] 26) := by rw [hgv2]; exact heap_alloc_new _ _
      have hgle2 : W0.heap.size ≤ gv2 := by rw [hgv2]; exact ec1.size
      refine heldOne (i := 15) (by kernel_rfl) (opRun (i := 15) (d := 7) (v := .pointer (some ⟨gv2, 0, none⟩)) (w' := wc1.alloc (.cells #[.int .i64 0, .int .i64 0, .slice none 0 0] 26)) rfl (by kernel_rfl) rfl (by rw [hgv2]; kernel_rfl) ⟨eG2, ?_⟩)
      simp only [Act.put, List.setIfInBounds_toArray, List.set_cons_zero, List.set_cons_succ]
      have oy3 := oy.below aG2
      have oz3 := oz.below aG2
      refine heldOne (i := 16) (by kernel_rfl) (opStore (i := 16) rfl (by kernel_rfl) rfl 26 (.tmp 7) (.tmp 178) rfl gv2 #[.int .i64 qr, .int .i64 qn, .slice gy K1 cy] (by kernel_rfl) (by kernel_rfl) 26 _ rG2 ac3k rfl (by simp [Value.oneCell']) ⟨oBelow_rowP eG2 hgle2 _, ?_⟩)
      have eS4 := oBelow_rowP eG2 hgle2 (#[.int .i64 qr, .int .i64 qn, .slice gy K1 cy])
      have rS4 := setRow_heap _ gv2 _ (#[.int .i64 qr, .int .i64 qn, .slice gy K1 cy]) 26 _ rG2
      have oy35 := Ov.otherRow oy3 rG2 ballotNe (#[.int .i64 qr, .int .i64 qn, .slice gy K1 cy])
      have oz35 := Ov.otherRow oz3 rG2 ballotNe (#[.int .i64 qr, .int .i64 qn, .slice gy K1 cy])
      refine heldTake (i := 17) 8 (v := .slice gz K1 cz) rfl rfl (by kernel_rfl) (by kernel_rfl) (by kernel_rfl) (fun _ _ _ h => h) (Or.inl ⟨by rfl, fun _ _ => by kernel_rfl⟩) eS4 ?_
      simp only [Act.put, List.setIfInBounds_toArray, List.set_cons_zero, List.set_cons_succ]
      refine heldTake (i := 18) 9 (v := .int .i64 E1) rfl rfl (by kernel_rfl) (by kernel_rfl) (by kernel_rfl) (fun _ _ _ h => h) (Or.inl ⟨by rfl, fun _ _ => by kernel_rfl⟩) eS4 ?_
      simp only [Act.put, List.setIfInBounds_toArray, List.set_cons_zero, List.set_cons_succ]
      exact wpAnyH_done (by kernel_rfl) (HK2.out gv2 gy cy gz cz _ ⟨rS4, oy35, oz35, eS4, hgle2⟩) _
    · obtain ⟨gv6, hgv6⟩ : ∃ g, g = W0.drew.heap.size := ⟨_, rfl⟩
      have aG6 : Below W0.drew.heap.size W0.drew (W0.drew.alloc (.cells #[.int .i64 0, .int .i64 0, .slice none 0 0] 26)) := (Below.refl _ _).alloc (Nat.le_refl _) _
      have eG6 : Below W0.heap.size W0 (W0.drew.alloc (.cells #[.int .i64 0, .int .i64 0, .slice none 0 0] 26)) := ed.trans (aG6.mono ed.size)
      have rG6 : (W0.drew.alloc (.cells #[.int .i64 0, .int .i64 0, .slice none 0 0] 26)).heap[gv6]? = some (.cells #[.int .i64 0, .int .i64 0, .slice none 0 0] 26) := by rw [hgv6]; exact heap_alloc_new _ _
      have hgle6 : W0.heap.size ≤ gv6 := by rw [hgv6]; exact ed.size
      refine (opRun (i := 15) (d := 7) (v := .pointer (some ⟨gv6, 0, none⟩)) (w' := W0.drew.alloc (.cells #[.int .i64 0, .int .i64 0, .slice none 0 0] 26)) rfl (by kernel_rfl) rfl (by rw [hgv6]; kernel_rfl) ⟨eG6, ?_⟩)
      simp only [Act.put, List.setIfInBounds_toArray, List.set_cons_zero, List.set_cons_succ]
      refine heldOne (i := 10) (by kernel_rfl) (opCall (i := 10) (d := 177) (f := 12) (args := #[.agg (acA (node n).p (ys n)), .agg (baA B.bal)]) rfl (by kernel_rfl) rfl (by kernel_rfl) ((promise_own (node n).p (ys n) (node n).vs B.bal _ (hsv.below eG6) (t0.below eG6)).mono ?_))
      rintro e' wc7 ⟨y5, z5, rfl, oy5, oz5, bc7⟩
      have ec7 : Below W0.heap.size W0 wc7 := eG6.trans (bc7.mono eG6.size)
      rw [show proP ⟨(node n).p, (node n).vs⟩ B.bal = ⟨qr, qn⟩ from HP1.out.1, show proE ⟨(node n).p, (node n).vs⟩ B.bal = E1 from HP1.out.2.2]
      rw [show proL ⟨(node n).p, (node n).vs⟩ B.bal = L1 from HP1.out.2.1] at oy5 oz5
      obtain ⟨gy, cy, hy5⟩ := ownsV_shape oy5
      obtain ⟨gz, cz, hz5⟩ := ownsV_shape oz5
      rw [HK1.out] at hy5 hz5
      subst hy5 hz5
      have oy := Ov.of oy5
      have oz := Ov.of oz5
      simp only [acA]
      have rg7 := (bc7.block _ (Array.getElem?_eq_some_iff.1 rG6).1).trans rG6
      refine ⟨_, rfl, ec7, ?_⟩
      simp only [Act.put, List.setIfInBounds_toArray, List.set_cons_zero, List.set_cons_succ]
      refine heldTake (i := 11) 166 (v := .tuple #[.agg #[.int .i64 qr, .int .i64 qn, .slice gy K1 cy], .slice gz K1 cz, .int .i64 E1]) rfl rfl (by kernel_rfl) (by kernel_rfl) (by kernel_rfl) (fun _ _ _ h => h) (Or.inl ⟨by rfl, fun _ _ => by kernel_rfl⟩) ec7 ?_
      simp only [Act.put, List.setIfInBounds_toArray, List.set_cons_zero, List.set_cons_succ]
      refine heldTake (i := 12) 178 (v := .agg #[.int .i64 qr, .int .i64 qn, .slice gy K1 cy]) rfl rfl (by kernel_rfl) (by kernel_rfl) (by kernel_rfl) (fun _ _ _ h => h) (Or.inl ⟨by rfl, fun _ _ => by kernel_rfl⟩) ec7 ?_
      simp only [Act.put, List.setIfInBounds_toArray, List.set_cons_zero, List.set_cons_succ]
      refine heldTake (i := 13) 179 (v := .slice gz K1 cz) rfl rfl (by kernel_rfl) (by kernel_rfl) (by kernel_rfl) (fun _ _ _ h => h) (Or.inl ⟨by rfl, fun _ _ => by kernel_rfl⟩) ec7 ?_
      simp only [Act.put, List.setIfInBounds_toArray, List.set_cons_zero, List.set_cons_succ]
      refine heldTake (i := 14) 180 (v := .int .i64 E1) rfl rfl (by kernel_rfl) (by kernel_rfl) (by kernel_rfl) (fun _ _ _ h => h) (Or.inl ⟨by rfl, fun _ _ => by kernel_rfl⟩) ec7 ?_
      simp only [Act.put, List.setIfInBounds_toArray, List.set_cons_zero, List.set_cons_succ]
      refine heldOne (i := 16) (by kernel_rfl) (opStore (i := 16) rfl (by kernel_rfl) rfl 26 (.tmp 7) (.tmp 178) rfl gv6 #[.int .i64 qr, .int .i64 qn, .slice gy K1 cy] (by kernel_rfl) (by kernel_rfl) 26 _ rg7 ac3k rfl (by simp [Value.oneCell']) ⟨oBelow_rowP ec7 hgle6 _, ?_⟩)
      have eS8 := oBelow_rowP ec7 hgle6 (#[.int .i64 qr, .int .i64 qn, .slice gy K1 cy])
      have rS8 := setRow_heap _ gv6 _ (#[.int .i64 qr, .int .i64 qn, .slice gy K1 cy]) 26 _ rg7
      have oy9 := Ov.otherRow oy rg7 ballotNe (#[.int .i64 qr, .int .i64 qn, .slice gy K1 cy])
      have oz9 := Ov.otherRow oz rg7 ballotNe (#[.int .i64 qr, .int .i64 qn, .slice gy K1 cy])
      refine heldTake (i := 17) 8 (v := .slice gz K1 cz) rfl rfl (by kernel_rfl) (by kernel_rfl) (by kernel_rfl) (fun _ _ _ h => h) (Or.inl ⟨by rfl, fun _ _ => by kernel_rfl⟩) eS8 ?_
      simp only [Act.put, List.setIfInBounds_toArray, List.set_cons_zero, List.set_cons_succ]
      refine heldTake (i := 18) 9 (v := .int .i64 E1) rfl rfl (by kernel_rfl) (by kernel_rfl) (by kernel_rfl) (fun _ _ _ h => h) (Or.inl ⟨by rfl, fun _ _ => by kernel_rfl⟩) eS8 ?_
      simp only [Act.put, List.setIfInBounds_toArray, List.set_cons_zero, List.set_cons_succ]
      exact wpAnyH_done (by kernel_rfl) (HK2.out gv6 gy cy gz cz _ ⟨rS8, oy9, oz9, eS8, hgle6⟩) _
  · rintro gA gy cy gz cz V ⟨qA, oy, oz, bV, hgA⟩
    have s1 := h0.below bV
    have d1 : Below m w V := d0.trans (bV.mono (Nat.le_of_lt hml))
    have t1 := t0.below bV
    have hrg := pRange bV hgl hrb
    rcases pro_two (HI.out.acc hn5) (HI.out.balMay hbk) with ⟨f1, f2, f3, f4⟩ | ⟨f1, f2, f3, f4⟩
    · have e1 : E1 = 7 := by rw [← HP1.out.2.2]; exact f1
      subst e1
      clear f1 f2 f3 f4 HP1 HK1
      go_wp2
      (try simp only [Exit.inBlock, Exit.then])
      refine bodyPost_ret (results_none rfl _ _ _) rfl ?_
      exact ⟨rfl, _, _, _, _, s1, HI.out, by show rounds ≤ rounds + 1; omega, d1⟩
    · have e1 : E1 = 0 := by rw [← HP1.out.2.2]; exact f1
      have e2 : (⟨qr, qn⟩ : Bal) = B.bal := by rw [← HP1.out.1]; exact f2
      have e3 : L1 = (node n).vs := by rw [← HP1.out.2.1]; exact f3
      obtain rfl : qr = B.bal.r := by rw [← e2]
      obtain rfl : qn = B.bal.n := by rw [← e2]
      subst e1
      rw [e3] at oy oz
      have HJ : Hid (MInv ⟨upN node n ⟨B.bal, (node n).vs⟩, upN bid k (some { B with prom := upN B.prom n (some (node n).vs) }), rounds, ch⟩) := HI.out.promise hbk hn5 f4
      have hVL : (node n).vs.length ≤ 40 := hL40
      have hrA : V.rangeAt gA 0 [.int .i64 B.bal.r, .int .i64 B.bal.n] := range2 (cell_of_row _ _ 0 _ _ _ qA) (cell_of_row _ _ 1 _ _ _ qA)
      clear f1 f2 f3 f4 HP1 HK1 e2 e3
      go_wp2_with fail
      have cF : V.cell? ⟨m, 37, none⟩ = some (.bool true) := by rw [s1.mb.cell (by omega), s1.mf.fi]
      have heb := eql_bal B.bal.r B.bal.n B.bal.r B.bal.n
      rw [decide_eq_true ⟨rfl, rfl⟩] at heb
      apply p_merge (fun W2 => Only m V W2 ∧ St W2 m ⟨node, bid, rounds, ch⟩ (updF f 37 [.bool true]) ys bs)
      · intro K2 HK2
        refine wp_region_held (S := fun w' => w'.cell? ⟨m, 37, none⟩ = some (.bool true) ∧ Only m V w') (by kernel_rfl) ?_
        have hS0 : (fun w' : World => w'.cell? ⟨m, 37, none⟩ = some (.bool true) ∧ Only m V w') V.drew := ⟨cF, (Only.refl _ _).drew⟩
        refine heldTake (i := 0) 183 (v := .pointer (some ⟨m, 0, none⟩)) rfl rfl (by kernel_rfl) (by kernel_rfl) (by kernel_rfl) (fun _ _ _ h => h) (Or.inl ⟨by rfl, fun _ _ => by kernel_rfl⟩) hS0 ?_
        simp only [Act.put, List.setIfInBounds_toArray, List.set_cons_zero, List.set_cons_succ]
        refine heldTake (i := 1) 184 (v := .pointer (some ⟨m, 0, none⟩)) rfl rfl (by kernel_rfl) (by kernel_rfl) (by kernel_rfl) (fun _ _ _ h => h) (Or.inl ⟨by rfl, fun _ _ => by kernel_rfl⟩) hS0 ?_
        simp only [Act.put, List.setIfInBounds_toArray, List.set_cons_zero, List.set_cons_succ]
        refine heldTake (i := 2) 185 (v := .pointer (some ⟨m, 0, none⟩)) rfl rfl (by kernel_rfl) (by kernel_rfl) (by kernel_rfl) (fun _ _ _ h => h) (Or.inl ⟨by rfl, fun _ _ => by kernel_rfl⟩) hS0 ?_
        simp only [Act.put, List.setIfInBounds_toArray, List.set_cons_zero, List.set_cons_succ]
        refine heldTake (i := 3) 186 (v := .pointer (some ⟨m, 37, none⟩)) rfl rfl (by kernel_rfl) (by kernel_rfl) (by kernel_rfl) (fun _ _ _ h => h) (Or.inl ⟨by rfl, fun _ _ => by kernel_rfl⟩) hS0 ?_
        simp only [Act.put, List.setIfInBounds_toArray, List.set_cons_zero, List.set_cons_succ]
        refine heldTake (i := 4) 187 (v := .bool true) rfl rfl (by kernel_rfl) (by kernel_rfl) (by kernel_rfl) (fun _ _ _ h => h) (yieldCell (by rfl) 4 (.tmp 186) rfl _ Tryd.underlying4 rfl ⟨m, 37, none⟩ rfl (.bool true) (fun w' hw' => hw'.1)) hS0 ?_
        simp only [Act.put, List.setIfInBounds_toArray, List.set_cons_zero, List.set_cons_succ]
        refine heldTake (i := 5) 188 (v := .bool true) rfl rfl (by kernel_rfl) (by kernel_rfl) (by kernel_rfl) (fun _ _ _ h => h) (Or.inl ⟨by rfl, fun _ _ => by kernel_rfl⟩) hS0 ?_
        simp only [Act.put, List.setIfInBounds_toArray, List.set_cons_zero, List.set_cons_succ]
        refine heldTake (i := 6) 189 (v := .int .i64 0) rfl rfl (by kernel_rfl) (by kernel_rfl) (by kernel_rfl) (fun _ _ _ h => h) (Or.inl ⟨by rfl, fun _ _ => by kernel_rfl⟩) hS0 ?_
        simp only [Act.put, List.setIfInBounds_toArray, List.set_cons_zero, List.set_cons_succ]
        refine heldTake (i := 7) 190 (v := .bool true) rfl rfl (by kernel_rfl) (by kernel_rfl) (by kernel_rfl) (fun _ _ _ h => h) (Or.inl ⟨by rfl, fun _ _ => by kernel_rfl⟩) hS0 ?_
        simp only [Act.put, List.setIfInBounds_toArray, List.set_cons_zero, List.set_cons_succ]
        refine heldTake (i := 8) 191 (v := .bool true) rfl rfl (by kernel_rfl) (by kernel_rfl) (by kernel_rfl) (fun _ _ _ h => h) (Or.inl ⟨by rfl, fun _ _ => by kernel_rfl⟩) hS0 ?_
        simp only [Act.put, List.setIfInBounds_toArray, List.set_cons_zero, List.set_cons_succ]
        refine heldTake (i := 9) 192 (v := .bool true) rfl rfl (by kernel_rfl) (by kernel_rfl) (by kernel_rfl) (fun _ _ _ h => h) (Or.inl ⟨by rfl, fun _ _ => by kernel_rfl⟩) hS0 ?_
        simp only [Act.put, List.setIfInBounds_toArray, List.set_cons_zero, List.set_cons_succ]
        refine heldTake (i := 10) 193 (v := .pointer (some ⟨gA, 0, none⟩)) rfl rfl (by kernel_rfl) (by kernel_rfl) (by kernel_rfl) (fun _ _ _ h => h) (Or.inl ⟨by rfl, fun _ _ => by kernel_rfl⟩) hS0 ?_
        simp only [Act.put, List.setIfInBounds_toArray, List.set_cons_zero, List.set_cons_succ]
        refine heldTake (i := 11) 194 (v := .agg (baA B.bal)) rfl rfl (by kernel_rfl) (by kernel_rfl) (by kernel_rfl) (fun _ _ _ h => h) (yieldsIf_load_mid (by rfl) 23 (.tmp 193) rfl gA (0) rfl [.int .i64 B.bal.r, .int .i64 B.bal.n] _ (fun w' hw' => onlyRange hw'.2 (by omega) hrA) Tryd.underlying23 rfl baSize) hS0 ?_
        simp only [Act.put, List.setIfInBounds_toArray, List.set_cons_zero, List.set_cons_succ]
        refine heldTake (i := 12) 195 (v := .pointer (some ⟨g, 0, none⟩)) rfl rfl (by kernel_rfl) (by kernel_rfl) (by kernel_rfl) (fun _ _ _ h => h) (Or.inl ⟨by rfl, fun _ _ => by kernel_rfl⟩) hS0 ?_
        simp only [Act.put, List.setIfInBounds_toArray, List.set_cons_zero, List.set_cons_succ]
        refine heldTake (i := 13) 196 (v := .pointer (some ⟨g, 0, none⟩)) rfl rfl (by kernel_rfl) (by kernel_rfl) (by kernel_rfl) (fun _ _ _ h => h) (Or.inl ⟨by rfl, fun _ _ => by kernel_rfl⟩) hS0 ?_
        simp only [Act.put, List.setIfInBounds_toArray, List.set_cons_zero, List.set_cons_succ]
        refine heldTake (i := 14) 197 (v := .pointer (some ⟨g, 0, none⟩)) rfl rfl (by kernel_rfl) (by kernel_rfl) (by kernel_rfl) (fun _ _ _ h => h) (Or.inl ⟨by rfl, fun _ _ => by kernel_rfl⟩) hS0 ?_
        simp only [Act.put, List.setIfInBounds_toArray, List.set_cons_zero, List.set_cons_succ]
        refine heldTake (i := 15) 198 (v := .agg (baA B.bal)) rfl rfl (by kernel_rfl) (by kernel_rfl) (by kernel_rfl) (fun _ _ _ h => h) (yieldsIf_load_mid (by rfl) 23 (.tmp 197) rfl g (0) rfl [.int .i64 B.bal.r, .int .i64 B.bal.n] _ (fun w' hw' => onlyRange hw'.2 (by omega) hrg) Tryd.underlying23 rfl baSize) hS0 ?_
        simp only [Act.put, List.setIfInBounds_toArray, List.set_cons_zero, List.set_cons_succ]
        refine heldTake (i := 16) 199 (v := .bool true) rfl rfl (by kernel_rfl) (by kernel_rfl) (by kernel_rfl) (fun _ _ _ h => h) (yieldBin (by rfl) .eql 23 23 (.tmp 194) (.tmp 198) rfl _ _ _ rfl rfl (fun _ => by kernel_rfl) heb) hS0 ?_
        simp only [Act.put, List.setIfInBounds_toArray, List.set_cons_zero, List.set_cons_succ]
        refine heldTake (i := 17) 200 (v := .bool true) rfl rfl (by kernel_rfl) (by kernel_rfl) (by kernel_rfl) (fun _ _ _ h => h) (Or.inl ⟨by rfl, fun _ _ => by kernel_rfl⟩) hS0 ?_
        simp only [Act.put, List.setIfInBounds_toArray, List.set_cons_zero, List.set_cons_succ]
        refine heldTake (i := 18) 201 (v := .pointer (some ⟨m, 0, none⟩)) rfl rfl (by kernel_rfl) (by kernel_rfl) (by kernel_rfl) (fun _ _ _ h => h) (Or.inl ⟨by rfl, fun _ _ => by kernel_rfl⟩) hS0 ?_
        simp only [Act.put, List.setIfInBounds_toArray, List.set_cons_zero, List.set_cons_succ]
        refine heldTake (i := 19) 202 (v := .pointer (some ⟨m, 37, none⟩)) rfl rfl (by kernel_rfl) (by kernel_rfl) (by kernel_rfl) (fun _ _ _ h => h) (Or.inl ⟨by rfl, fun _ _ => by kernel_rfl⟩) hS0 ?_
        simp only [Act.put, List.setIfInBounds_toArray, List.set_cons_zero, List.set_cons_succ]
        have O1 : Only m V (V.drew.setCell ⟨m, 37, none⟩ (.bool true)) := ((Only.refl m V).drew).trans (Only.one _ _ _ _)
        have B1 : Blk (V.drew.setCell ⟨m, 37, none⟩ (.bool true)) m 61 38 _ := (s1.mb.keep (w' := V.drew) rfl).one 37 (.bool true)
        refine heldOne (i := 20) (by kernel_rfl) (opStoreOne rfl (by kernel_rfl) rfl 4 (.tmp 202) (.tmp 200) rfl m 37 (.bool true) _ (by kernel_rfl) (by kernel_rfl) cF (s1.mb.frozen 37) boSize rfl ⟨⟨World.cell?_setCell_same _ _ _ cF, O1⟩, ?_⟩)
        exact wpAnyH_done (by kernel_rfl) (HK2 _ ⟨O1, s1.turnM O1 B1 s1.mf.fine s1.ov⟩) _
      · rintro V1 ⟨oF, s2⟩
        have qA2 := (oF.other gA (by omega)).trans qA
        have oyF := Ov.only s1.mb mtNe oF oy
        have ozF := Ov.only s1.mb mtNe oF oz
        go_wp2_with fail
        apply p_merge (fun W2 => Only m V1 W2 ∧ St W2 m ⟨upN node n ⟨B.bal, (node n).vs⟩, bid, rounds, ch⟩ (updF (updF f 37 [.bool true]) (3 * n) [.int .i64 B.bal.r, .int .i64 B.bal.n, .slice gy K1 cy]) (upN ys n (.slice gy K1 cy)) bs)
        · intro K2 HK2
          refine wp_region_held (S := fun w' => Only m V1 w') (by kernel_rfl) ?_
          have hS0 : (fun w' : World => Only m V1 w') V1.drew := (Only.refl _ _).drew
          refine heldTake (i := 0) 203 (v := .pointer (some ⟨m, 0, none⟩)) rfl rfl (by kernel_rfl) (by kernel_rfl) (by kernel_rfl) (fun _ _ _ h => h) (Or.inl ⟨by rfl, fun _ _ => by kernel_rfl⟩) hS0 ?_
          simp only [Act.put, List.setIfInBounds_toArray, List.set_cons_zero, List.set_cons_succ]
          refine heldTake (i := 1) 204 (v := .int .i64 (n : Int)) rfl rfl (by kernel_rfl) (by kernel_rfl) (by kernel_rfl) (fun _ _ _ h => h) (Or.inl ⟨by rfl, fun _ _ => by kernel_rfl⟩) hS0 ?_
          simp only [Act.put, List.setIfInBounds_toArray, List.set_cons_zero, List.set_cons_succ]
          refine heldTake (i := 2) 205 (v := .agg #[.int .i64 B.bal.r, .int .i64 B.bal.n, .slice gy K1 cy]) rfl rfl (by kernel_rfl) (by kernel_rfl) (by kernel_rfl) (fun _ _ _ h => h) (yieldRow (by rfl) 26 (.tmp 7) rfl gA rfl 26 _ (fun w' hw' => (hw'.other gA (by omega)).trans qA2) Tryd.underlying26 rfl ac3k) hS0 ?_
          simp only [Act.put, List.setIfInBounds_toArray, List.set_cons_zero, List.set_cons_succ]
          refine heldTake (i := 3) 206 (v := .pointer (some ⟨m, 0, none⟩)) rfl rfl (by kernel_rfl) (by kernel_rfl) (by kernel_rfl) (fun _ _ _ h => h) (Or.inl ⟨by rfl, fun _ _ => by kernel_rfl⟩) hS0 ?_
          simp only [Act.put, List.setIfInBounds_toArray, List.set_cons_zero, List.set_cons_succ]
          refine heldTake (i := 4) 207 (v := .pointer (some ⟨m, 0, none⟩)) rfl rfl (by kernel_rfl) (by kernel_rfl) (by kernel_rfl) (fun _ _ _ h => h) (Or.inl ⟨by rfl, fun _ _ => by kernel_rfl⟩) hS0 ?_
          simp only [Act.put, List.setIfInBounds_toArray, List.set_cons_zero, List.set_cons_succ]
          refine heldTake (i := 5) 208 (v := .pointer (some ⟨m, 3 * n, none⟩)) rfl rfl (by kernel_rfl) (by kernel_rfl) (by kernel_rfl) (fun _ _ _ h => h) (yieldIndexArr (by rfl) 55 26 5 3 (.tmp 207) (.tmp 204) rfl Tryd.underlying55 ac3k m 0 n (3 * n) hn5 (by omega) rfl rfl) hS0 ?_
          simp only [Act.put, List.setIfInBounds_toArray, List.set_cons_zero, List.set_cons_succ]
          have O2 : Only m V1 (V1.drew.setCells m (3 * n) [.int .i64 B.bal.r, .int .i64 B.bal.n, .slice gy K1 cy]) := ((Only.refl m V1).drew).trans (Only.store _ _ _ _)
          have B2 : Blk (V1.drew.setCells m (3 * n) [.int .i64 B.bal.r, .int .i64 B.bal.n, .slice gy K1 cy]) m 61 38 _ := (s2.mb.keep (w' := V1.drew) rfl).store (3 * n) [.int .i64 B.bal.r, .int .i64 B.bal.n, .slice gy K1 cy]
          refine heldOne (i := 6) (by kernel_rfl) (opStoreMid rfl (by kernel_rfl) rfl 26 (.tmp 208) (.tmp 205) rfl m (3 * n) #[.int .i64 B.bal.r, .int .i64 B.bal.n, .slice gy K1 cy] (by kernel_rfl) (by kernel_rfl) ((s2.mb.keep (w' := V1.drew) rfl).there (by show 3 * n + 3 ≤ 38; omega)) ac3k (by simp [Value.oneCell']) ⟨O2, ?_⟩)
          exact wpAnyH_done (by kernel_rfl) (HK2 _ ⟨O2, s2.vote O2 hn5 B.bal (node n).vs (.slice gy K1 cy) B2 oyF hVL⟩) _
        · rintro V2 ⟨oN, s3⟩
          have ozN := Ov.only s2.mb mtNe oN ozF
          have d3 := (d1.trans (oF.below (Nat.le_refl _))).trans (oN.below (Nat.le_refl _))
          have t3 := (t1.low hm (oF.below (Nat.le_refl _))).low hm (oN.below (Nat.le_refl _))
          obtain ⟨g', hg', hba⟩ := s3.bd k hk3 B hbk
          obtain rfl : g' = g := Option.some.inj (hg'.symm.trans HG.out)
          obtain ⟨F, zs, hF, hBF, hV⟩ := hba
          have hgm2 := (s3.gt k g' hk3 HG.out).1
          have B4 := hF.one (7 + n) (.bool true)
          have B5 := B4.one (2 + n) (.slice gz K1 cz)
          have O5 := (Only.one V2 g' (7 + n) (.bool true)).trans (Only.one (V2.setCell ⟨g', 7 + n, none⟩ (.bool true)) g' (2 + n) (.slice gz K1 cz))
          have hba5 := BidAt.prom hF hBF hV O5 hn5 B5 ozN hVL
          have s5 := s3.turnB hk3 HG.out hF O5 hba5
          have d5 := d3.trans (O5.below (Nat.le_of_lt hgm2))
          have t5 := t3.low hm (O5.below (Nat.le_of_lt hgm2))
          have c4 := hF.cell (show 7 + n < 30 by omega)
          have f4 := hF.frozen (7 + n)
          have c5 := B4.cell (show 2 + n < 30 by omega)
          have f5 := B4.frozen (2 + n)
          have i4 := runIndexArr 75 4 5 1 Tryd.underlying75 boSize g' 7 n hn5
          have i5 := runIndexArr 74 24 5 1 Tryd.underlying74 svSize g' 2 n hn5
          rw [Nat.one_mul] at i4 i5
          clear s1 s2 s3 oF oN oyF ozF ozN qA qA2 hrA cF heb hrg d1 d3 t1 t3 hF hBF hV B4 B5 O5 hba5 hg'
          go_wp2_with ((with_reducible (refine pxLook ?_)); first | (refine wpList_store_one rfl 4 (.tmp 213) _ rfl g' (7 + n) (.bool true) _ rfl rfl c4 f4 boSize rfl ?_) | (refine wpList_store_one rfl 24 (.tmp 219) _ rfl g' (2 + n) (.slice gz K1 cz) _ rfl rfl c5 f5 svSize rfl ?_))
          refine (look_any _ m _ _ _ _ s5 HJ.out t5 hm).mono ?_
          rintro e w9 ⟨rfl, ch9, f9, s9, i9, b9⟩
          go_wp2
          go_end0
          exact ⟨rfl, _, _, _, _, s9, i9, by show rounds ≤ rounds + 1; omega, d5.trans b9⟩
end Go.Proofs.YticjofjghpdmpaaDoor
/-
  The walk of a ply: a proposer that has too few promises.
-/
namespace Go.Proofs.YticjofjghpdmpaaDoor
open Go.RowKit
set_option linter.unusedVariables false

set_option maxHeartbeats 4000000 in
set_option maxRecDepth 100000 in
theorem play_few (w : World) (m : Nat) (node : Nat → Acc) (bid : Nat → Option Bid) (rounds : Int) (ch : Nat → Option Cmd) (f ys : Nat → Value) (bs : Nat → Option Nat) (h : St w m ⟨node, bid, rounds, ch⟩ f ys bs) (hI : MInv ⟨node, bid, rounds, ch⟩) (hr : rounds < 65000) (ht : NTab w) (hm : 0 < m)
    (pk pc ps pn pv : Int) (ik : I64 pk) (ic : I64 pc) (is : I64 ps) (in4 : I64 pn) (iv : I64 pv) (n k kd : Nat) (hn : pick pc 5 = (n : Int)) (hn5 : n < 5) (hk : pick ps 3 = (k : Int)) (hk3 : k < 3) (hkd : pick pk 12 = (kd : Int)) (hkd2 : kd < 12) (hk6 : 6 ≤ kd) (B : Bid) (hbk : bid k = some B) (hc : countOf B ≤ 2) :
    Calls Tryd.prog 24 #[.pointer (some ⟨m, 0, none⟩), .agg #[.int .i64 pk, .int .i64 pc, .int .i64 ps, .int .i64 pn, .int .i64 pv]] w fun e w' => e = .returned (.tuple #[]) ∧ Res w m rounds w' := by
  have HI : Hid (MInv ⟨node, bid, rounds, ch⟩) := hI
  have hr0 : 0 ≤ rounds := by obtain ⟨H, h0⟩ := hI; exact h0.r0
  clear hI
  have HT : Hid (NTab w) := ht
  have bb : Below w.heap.size w (w.alloc (.cells #[.int .i64 pk, .int .i64 pc, .int .i64 ps, .int .i64 pn, .int .i64 pv] 64)) := (Below.refl _ _).alloc (Nat.le_refl _) _
  have rr := heap_alloc_new w (.cells #[.int .i64 pk, .int .i64 pc, .int .i64 ps, .int .i64 pn, .int .i64 pv] 64)
  generalize hW0 : w.alloc (.cells #[.int .i64 pk, .int .i64 pc, .int .i64 ps, .int .i64 pn, .int .i64 pv] 64) = W0 at bb rr
  go_enter Tryd.func24, Tryd.ntmps24
  go_upto_region 1 with fail
  clear hW0
  have h0 := h.below bb
  have t0 := ht.below bb
  have d0 : Below m w W0 := bb.mono (Nat.le_of_lt h.mb.lt)
  have hgm : m < w.heap.size := h.mb.lt
  have lP : w.heap.size < W0.heap.size := (Array.getElem?_eq_some_iff.1 rr).1
  obtain ⟨gP, hgP⟩ : ∃ g, g = w.heap.size := ⟨_, rfl⟩
  rw [← hgP] at rr hgm lP ⊢
  clear hgP bb ht
  have p0 : W0.cell? ⟨gP, 0, none⟩ = some (.int .i64 pk) := cell_of_row _ _ 0 _ _ _ rr
  have p1 : W0.cell? ⟨gP, 1, none⟩ = some (.int .i64 pc) := cell_of_row _ _ 1 _ _ _ rr
  have p2 : W0.cell? ⟨gP, 2, none⟩ = some (.int .i64 ps) := cell_of_row _ _ 2 _ _ _ rr
  have p3 : W0.cell? ⟨gP, 3, none⟩ = some (.int .i64 pn) := cell_of_row _ _ 3 _ _ _ rr
  have p4 : W0.cell? ⟨gP, 4, none⟩ = some (.int .i64 pv) := cell_of_row _ _ 4 _ _ _ rr
  go_wp2_with fail
  refine (ic.picked 5 _ (by omega) (by omega)).mono ?_
  rintro e wq ⟨rfl, hwq⟩
  replace hwq := hwq.symm
  subst hwq
  rw [hn]
  go_wp2_with fail
  refine (is.picked 3 _ (by omega) (by omega)).mono ?_
  rintro e wq ⟨rfl, hwq⟩
  replace hwq := hwq.symm
  subst hwq
  rw [hk]
  have hib := runIndexArr 57 56 3 1 Tryd.underlying57 ptrSize m 15 k hk3
  rw [Nat.one_mul] at hib
  obtain ⟨g, hg, HBA0⟩ := h0.bd k hk3 B hbk
  have HBA : Hid (BidAt W0 g B) := HBA0
  clear HBA0
  have HG : Hid (bs k = some g) := hg
  have hgt := h0.gt k g hk3 hg
  have cb : W0.cell? ⟨m, 15 + k, none⟩ = some (.pointer (some ⟨g, 0, none⟩)) := by rw [h0.mb.cell (show 15 + k < 38 by omega), h0.mf.bp k hk3, hg]; rfl
  clear hg
  go_wp2_with fail
  refine (ik.picked 12 _ (by omega) (by omega)).mono ?_
  rintro e wq ⟨rfl, hwq⟩
  replace hwq := hwq.symm
  subst hwq
  rw [hkd]
  have hz : ¬ ((kd : Int) = 0) := by omega
  have hz6 : ¬ ((kd : Int) < 6) := by omega
  go_wp2_with fail
  refine (ik.picked 12 _ (by omega) (by omega)).mono ?_
  rintro e wq ⟨rfl, hwq⟩
  replace hwq := hwq.symm
  subst hwq
  rw [hkd]
  go_wp2_with fail
  refine (count_any W0 g B HBA.out).mono ?_
  rintro e wq ⟨rfl, hwq⟩
  replace hwq := hwq.symm
  subst hwq
  generalize countOf B = cn at hc
  have hc2 : (2 : Int) * (cn : Int) ≤ 5 := by omega
  go_wp2
  (try simp only [Exit.inBlock, Exit.then])
  refine bodyPost_ret (results_none rfl _ _ _) rfl ?_
  exact ⟨rfl, _, _, _, _, h0, HI.out, by show rounds ≤ rounds + 1; omega, d0⟩
end Go.Proofs.YticjofjghpdmpaaDoor
