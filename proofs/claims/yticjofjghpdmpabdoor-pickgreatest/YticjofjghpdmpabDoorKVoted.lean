/-
  The walk of what an acceptor is behind some plies of one proposer.
-/
import Derived.Test.YticjofjghpdmpabDoorPaxKeep
import Derived.Test.YticjofjghpdmpabDoorPaxProg
import Derived.Test.YticjofjghpdmpabDoorPaxVote
import Derived.Test.YticjofjghpdmpabDoorPlyOpen
import Derived.Test.YticjofjghpdmpabDoorLawRows
namespace Go.Proofs.YticjofjghpdmpabDoor
open Go.RowKit
set_option linter.unusedVariables false

theorem p_mergeG {P : Program} {id : Nat} {ops : Array Oper} {K : Act → World → Prop} {Q : Exit → Act → World → Prop} {a : Act} {w : World} (R : Nat → World → Prop) {A : Nat → Act}
    (hreg : ∀ K' : Act → World → Prop, Hid (∀ x W2, R x W2 → K' (A x) W2) → (Code.region id ops true).wp P (Exit.then K' Q) a w) (hrest : ∀ x W2, R x W2 → K (A x) W2) : (Code.region id ops true).wp P (Exit.then K Q) a w := hreg K hrest
theorem p_mergeG3 {P : Program} {id : Nat} {ops : Array Oper} {K : Act → World → Prop} {Q : Exit → Act → World → Prop} {a : Act} {w : World} (R : Nat → Option Addr → Nat → World → Prop) {A : Nat → Option Addr → Nat → Act}
    (hreg : ∀ K' : Act → World → Prop, Hid (∀ x g c W2, R x g c W2 → K' (A x g c) W2) → (Code.region id ops true).wp P (Exit.then K' Q) a w) (hrest : ∀ x g c W2, R x g c W2 → K (A x g c) W2) : (Code.region id ops true).wp P (Exit.then K Q) a w := hreg K hrest
theorem ownsRow_len {w : World} {b e k8 : Nat} {v : Value} {n m : Nat} {xs : List Value} (h : w.ownsRow b e k8 v n xs) (hn : n = m) : w.ownsRow b e k8 v m xs := hn ▸ h
/-- what promising and voting answer where an acceptor may be -/
theorem pro_split {a : Acc} {b : Bal} (h : AccMay a) (hb : BalMay b) : (proE a b = 7 ∧ proP a b = ⟨0, 0⟩ ∧ proL a b = [] ∧ b.lt a.p) ∨ (proE a b = 0 ∧ proP a b = b ∧ proL a b = a.vs ∧ ¬ b.lt a.p) := by
  by_cases hl : b.lt a.p
  · have e : proE a b = 7 := by unfold proE; rw [if_neg (fun g => g h), if_neg (fun g => g hb), if_pos hl]
    exact .inl ⟨e, if_neg (by rw [e]; decide), if_neg (by rw [e]; decide), hl⟩
  · have e : proE a b = 0 := by unfold proE; rw [if_neg (fun g => g h), if_neg (fun g => g hb), if_neg hl]
    exact .inr ⟨e, if_pos e, if_pos e, hl⟩
theorem vot_split {a : Acc} {v : Vt} (h : AccMay a) (hv : VtMay v) : (votE a v = 7 ∧ accP a v = ⟨0, 0⟩ ∧ accL a v = [] ∧ v.b.lt a.p) ∨ (votE a v = 0 ∧ accP a v = v.b ∧ accL a v = insV a.vs v ∧ ¬ v.b.lt a.p) := by
  by_cases hl : v.b.lt a.p
  · have e : votE a v = 7 := by unfold votE; rw [if_neg (fun g => g h), if_neg (fun g => g hv), if_pos hl]
    exact .inl ⟨e, if_neg (by rw [e]; decide), if_neg (by rw [e]; decide), hl⟩
  · have e : votE a v = 0 := by unfold votE; rw [if_neg (fun g => g h), if_neg (fun g => g hv), if_neg hl]
    exact .inr ⟨e, if_pos e, if_pos e, hl⟩
theorem AccMay.short {a : Acc} (h : AccMay a) : a.vs.length ≤ 40 := by
  have hr := h.2.2
  have hs : ∀ v ∈ a.vs, 0 ≤ v.slot ∧ v.slot ≤ 39 := fun v hv => (h.2.1 v hv).1.1
  have e := gatL_len (l := a.vs) ⟨40, ⟨0, 0⟩, ⟨0, 0, 0, 0, 0⟩⟩ hr 41
  have e2 : gatL a.vs ⟨40, ⟨0, 0⟩, ⟨0, 0, 0, 0, 0⟩⟩ 41 = insV a.vs ⟨40, ⟨0, 0⟩, ⟨0, 0, 0, 0, 0⟩⟩ := gatL_up 41 hr (fun u hu => by have := hs u hu; omega) (by simp)
  have e3 : insV a.vs ⟨40, ⟨0, 0⟩, ⟨0, 0, 0, 0, 0⟩⟩ = a.vs ++ insV [] ⟨40, ⟨0, 0⟩, ⟨0, 0, 0, 0, 0⟩⟩ := by
    have := insV_skip a.vs [] ⟨40, ⟨0, 0⟩, ⟨0, 0, 0, 0, 0⟩⟩ (fun u hu => by have := hs u hu; show u.slot < 40; omega)
    rwa [List.append_nil] at this
  rw [e2, e3] at e
  simp [insV] at e
  exact e
set_option maxHeartbeats 4000000 in
set_option maxRecDepth 100000 in
theorem voted_any (x : Value) (l : List Cmd) (w : World) (h : Sp w x l) (hi : ∀ c ∈ l, PlyI c) (ht : NTab w) :
    Calls Tryd.prog 9 #[x] w fun e w' => ∃ (a : Acc) (y : Value), e = .returned (.tuple #[.agg (acA a.p y), .bool true]) ∧ Ov w' y a.vs ∧ AccMay a ∧ a.p.r ≤ 9 ∧ Below w.heap.size w w' := by
  have hlen := h.len
  have HI : Hid (∀ c ∈ l, PlyI c) := hi
  obtain ⟨ax, cp, rfl⟩ := h.shape
  obtain ⟨N, hN⟩ : ∃ N, l.length = N := ⟨_, rfl⟩
  have HN : Hid (l.length = N) := hN
  rw [hN] at h hlen ⊢
  clear hN hi
  have r0 := heap_alloc2_old w (.cells #[.int .i64 0, .int .i64 0, .slice none 0 0] 27) (.cells #[.int .i64 0, .int .i64 0, .slice none 0 0] 27)
  have r1 := heap_alloc2_new w (.cells #[.int .i64 0, .int .i64 0, .slice none 0 0] 27) (.cells #[.int .i64 0, .int .i64 0, .slice none 0 0] 27)
  have bb : Below w.heap.size w ((w.alloc (.cells #[.int .i64 0, .int .i64 0, .slice none 0 0] 27)).alloc (.cells #[.int .i64 0, .int .i64 0, .slice none 0 0] 27)) := ((Below.refl _ _).alloc (Nat.le_refl _) _).alloc (by simp) _
  have z0 : ((w.alloc (.cells #[.int .i64 0, .int .i64 0, .slice none 0 0] 27)).alloc (.cells #[.int .i64 0, .int .i64 0, .slice none 0 0] 27)).heap.size = w.heap.size + 2 := by simp
  generalize hW : (w.alloc (.cells #[.int .i64 0, .int .i64 0, .slice none 0 0] 27)).alloc (.cells #[.int .i64 0, .int .i64 0, .slice none 0 0] 27) = W0 at r0 r1 bb z0
  go_enter Tryd.func9, Tryd.ntmps9
  go_wp2_with fail
  clear hW
  have hG1 : w.heap.size < w.heap.size + 1 := by omega
  have hG2 : w.heap.size + 1 < W0.heap.size := by omega
  generalize hG : w.heap.size + 1 = G at r1 hG1 hG2 ⊢
  clear hG z0
  go_loopw [5, 6] (fun ov iv wr => ∃ (j : Nat) (a : Acc) (y : Value), j ≤ N ∧ j ≤ 30 ∧ iv = .int .i64 (j : Int) ∧ ov = .bool true ∧ wr.heap[G]? = some (.cells #[.int .i64 a.p.r, .int .i64 a.p.n, y] 27 (0, 0)) ∧ Ov wr y a.vs ∧ AccMay a ∧ a.p.r ≤ 9 ∧ Below G W0 wr) (fun _ iv _ => ((N : Int) - intOf iv).toNat)
  case atStart => exact ⟨0, ⟨⟨0, 0⟩, []⟩, .slice none 0 0, by omega, by omega, rfl, rfl, r1, World.ownsRow_nil _ _ _ _, ⟨.inr ⟨rfl, rfl⟩, fun v hv => (List.not_mem_nil hv).elim, trivial⟩, by simp, Below.refl _ _⟩
  case round =>
    obtain ⟨j, ⟨⟨ar, an⟩, L⟩, y, hj, hj3, rfl, rfl, qa, oa, hma, hpa, hbel⟩ := hrel
    simp only at qa oa hpa
    have hwr : Below w.heap.size w wr := bb.trans (hbel.mono (by omega))
    have HMA : Hid (AccMay ⟨⟨ar, an⟩, L⟩) := hma
    have hL40 : L.length ≤ 40 := hma.short
    obtain ⟨ay, cy, rfl⟩ := ownsV_shape oa
    obtain ⟨M, hM⟩ : ∃ M, L.length = M := ⟨_, rfl⟩
    have HML : Hid (L.length = M) := hM
    rw [hM] at qa oa
    have sa0 : Sv wr (.slice ay M cy) L := Sv.ofOwns oa (by omega)
    have HOA : Hid (Ov wr (.slice ay M cy) L) := oa
    have ta0 := ht.below hwr
    have ltG0 : G < wr.heap.size := (Array.getElem?_eq_some_iff.1 qa).1
    have rr0 := (hbel.block w.heap.size hG1).trans r0
    clear oa hma hM
    by_cases hjj : j < N ∧ j < 30
    · obtain ⟨hjN, hj30⟩ := hjj
      have hji : (j : Int) < (N : Int) := by omega
      have hji3 : (j : Int) < 30 := by omega
      obtain ⟨ply, hv⟩ : ∃ c, l[j]? = some c := ⟨_, List.getElem?_eq_getElem (by have := HN.out; omega)⟩
      obtain ⟨b, off, rfl, ltb0, hr0⟩ := h.spot j ply hv
      have hpi := HI.out ply (List.mem_iff_getElem?.2 ⟨j, hv⟩)
      obtain ⟨pk, pc, ps, pn, pv⟩ := ply
      obtain ⟨ipk, ipc, ips, ipn, ipv⟩ := hpi
      simp only at ipk ipc ips ipn ipv
      have hr := pRange hwr ltb0 hr0
      have ltb : b < wr.heap.size := Nat.lt_of_lt_of_le ltb0 hwr.size
      have p9 := pick_range ps 9 (by omega)
      have p5 := pick_range pc 5 (by omega)
      have q5 := pick_range pn 5 (by omega)
      have q50 := pick_range pv 50 (by omega)
      have q2 := pick_range pk 2 (by omega)
      clear hv hr0
      have hone2 : (#[.int .i64 (1 + pick ps 9), .int .i64 (pick pc 5)] : Array Value).all (·.oneCell') = true := by simp [Value.oneCell']
      go_wp2_with fail
      apply p_mergeG (fun g W2 => W2.heap[g]? = some (.cells #[.int .i64 (1 + pick ps 9), .int .i64 (pick pc 5)] 24) ∧ Below wr.heap.size wr W2 ∧ wr.heap.size ≤ g)
      · intro K2 HK2
        have ed : Below wr.heap.size wr wr.drew := (Below.refl _ _).drew
        refine wp_region_held (S := fun w' => Below wr.heap.size wr w') (by kernel_rfl) ?_
        refine heldTake (i := 0) 23 (v := .slice (some ⟨b, off, none⟩) N cp) rfl rfl (by kernel_rfl) (by kernel_rfl) (by kernel_rfl) (fun _ _ _ h => h) (Or.inl ⟨by rfl, fun _ _ => by kernel_rfl⟩) ed ?_
        simp only [Act.put, List.setIfInBounds_toArray, List.set_cons_zero, List.set_cons_succ]
        refine heldTake (i := 1) 24 (v := .int .i64 (j : Int)) rfl rfl (by kernel_rfl) (by kernel_rfl) (by kernel_rfl) (fun _ _ _ h => h) (Or.inl ⟨by rfl, fun _ _ => by kernel_rfl⟩) ed ?_
        simp only [Act.put, List.setIfInBounds_toArray, List.set_cons_zero, List.set_cons_succ]
        refine heldTake (i := 2) 25 (v := .pointer (some ⟨b, off + 5 * j, none⟩)) rfl rfl (by kernel_rfl) (by kernel_rfl) (by kernel_rfl) (fun _ _ _ h => h) (yieldIndexP (by rfl) (.tmp 23) (.tmp 24) rfl b off N cp j hjN rfl rfl) ed ?_
        simp only [Act.put, List.setIfInBounds_toArray, List.set_cons_zero, List.set_cons_succ]
        refine heldTake (i := 3) 26 (v := .pointer (some ⟨b, off + 5 * j + 2, none⟩)) rfl rfl (by kernel_rfl) (by kernel_rfl) (by kernel_rfl) (fun _ _ _ h => h) (Or.inl ⟨by rfl, fun _ _ => by kernel_rfl⟩) ed ?_
        simp only [Act.put, List.setIfInBounds_toArray, List.set_cons_zero, List.set_cons_succ]
        refine heldTake (i := 4) 27 (v := .int .i64 ps) rfl rfl (by kernel_rfl) (by kernel_rfl) (by kernel_rfl) (fun _ _ _ h => h) (yieldCell (by rfl) 3 (.tmp 26) rfl _ Tryd.underlying3 rfl ⟨b, off + 5 * j + 2, none⟩ rfl (.int .i64 ps) (fun w' hw' => (hw'.cell (p := ⟨b, off + 5 * j + 2, none⟩) ltb).trans (hr 2 _ rfl))) ed ?_
        simp only [Act.put, List.setIfInBounds_toArray, List.set_cons_zero, List.set_cons_succ]
        refine heldTake (i := 7) 30 (v := .slice (some ⟨b, off, none⟩) N cp) rfl rfl (by kernel_rfl) (by kernel_rfl) (by kernel_rfl) (fun _ _ _ h => h) (Or.inl ⟨by rfl, fun _ _ => by kernel_rfl⟩) ed ?_
        simp only [Act.put, List.setIfInBounds_toArray, List.set_cons_zero, List.set_cons_succ]
        refine heldTake (i := 8) 31 (v := .int .i64 (j : Int)) rfl rfl (by kernel_rfl) (by kernel_rfl) (by kernel_rfl) (fun _ _ _ h => h) (Or.inl ⟨by rfl, fun _ _ => by kernel_rfl⟩) ed ?_
        simp only [Act.put, List.setIfInBounds_toArray, List.set_cons_zero, List.set_cons_succ]
        refine heldTake (i := 9) 32 (v := .pointer (some ⟨b, off + 5 * j, none⟩)) rfl rfl (by kernel_rfl) (by kernel_rfl) (by kernel_rfl) (fun _ _ _ h => h) (yieldIndexP (by rfl) (.tmp 30) (.tmp 31) rfl b off N cp j hjN rfl rfl) ed ?_
        simp only [Act.put, List.setIfInBounds_toArray, List.set_cons_zero, List.set_cons_succ]
        refine heldTake (i := 10) 33 (v := .pointer (some ⟨b, off + 5 * j + 1, none⟩)) rfl rfl (by kernel_rfl) (by kernel_rfl) (by kernel_rfl) (fun _ _ _ h => h) (Or.inl ⟨by rfl, fun _ _ => by kernel_rfl⟩) ed ?_
        simp only [Act.put, List.setIfInBounds_toArray, List.set_cons_zero, List.set_cons_succ]
        refine heldTake (i := 11) 34 (v := .int .i64 pc) rfl rfl (by kernel_rfl) (by kernel_rfl) (by kernel_rfl) (fun _ _ _ h => h) (yieldCell (by rfl) 3 (.tmp 33) rfl _ Tryd.underlying3 rfl ⟨b, off + 5 * j + 1, none⟩ rfl (.int .i64 pc) (fun w' hw' => (hw'.cell (p := ⟨b, off + 5 * j + 1, none⟩) ltb).trans (hr 1 _ rfl))) ed ?_
        simp only [Act.put, List.setIfInBounds_toArray, List.set_cons_zero, List.set_cons_succ]
        refine heldTwo (i := 5) (i' := 14) (by kernel_rfl) ?_ ?_
        · refine (opCall (i := 5) (d := 28) (f := 10) (args := #[.int .i64 ps, .int .i64 9]) rfl (by kernel_rfl) rfl (by kernel_rfl) ((ips.picked 9 _ (by omega) (by omega)).mono ?_))
          rintro e' w' ⟨rfl, rfl⟩
          refine ⟨_, rfl, ed, ?_⟩
          simp only [Act.put, List.setIfInBounds_toArray, List.set_cons_zero, List.set_cons_succ]
          refine heldTake (i := 6) 29 (v := .int .i64 (1 + pick ps 9)) rfl rfl (by kernel_rfl) (by kernel_rfl) (by kernel_rfl) (fun _ _ _ h => h) (yieldUp1 (by rfl) (.tmp 28) rfl (pick ps 9) rfl (by omega) (by omega)) ed ?_
          simp only [Act.put, List.setIfInBounds_toArray, List.set_cons_zero, List.set_cons_succ]
          refine heldTwo (i := 12) (i' := 14) (by kernel_rfl) ?_ ?_
          · refine (opCall (i := 12) (d := 35) (f := 10) (args := #[.int .i64 pc, .int .i64 5]) rfl (by kernel_rfl) rfl (by kernel_rfl) ((ipc.picked 5 _ (by omega) (by omega)).mono ?_))
            rintro e' w' ⟨rfl, rfl⟩
            refine ⟨_, rfl, ed, ?_⟩
            simp only [Act.put, List.setIfInBounds_toArray, List.set_cons_zero, List.set_cons_succ]
            refine heldTake (i := 13) 36 (v := .agg #[.int .i64 (1 + pick ps 9), .int .i64 (pick pc 5)]) rfl rfl (by kernel_rfl) (by kernel_rfl) (by kernel_rfl) (fun _ _ _ h => h) (Or.inl ⟨by rfl, fun _ _ => by kernel_rfl⟩) ed ?_
            simp only [Act.put, List.setIfInBounds_toArray, List.set_cons_zero, List.set_cons_succ]
            obtain ⟨gv1, hgv1⟩ : ∃ g, g = wr.drew.heap.size := ⟨_, rfl⟩
            have aG1 : Below wr.drew.heap.size wr.drew (wr.drew.alloc (.cells #[.int .i64 0, .int .i64 0] 24)) := (Below.refl _ _).alloc (Nat.le_refl _) _
            have eG1 : Below wr.heap.size wr (wr.drew.alloc (.cells #[.int .i64 0, .int .i64 0] 24)) := ed.trans (aG1.mono ed.size)
            have rG1 : (wr.drew.alloc (.cells #[.int .i64 0, .int .i64 0] 24)).heap[gv1]? = some (.cells #[.int .i64 0, .int .i64 0] 24) := by rw [hgv1]; exact heap_alloc_new _ _
            have hgle1 : wr.heap.size ≤ gv1 := by rw [hgv1]; exact ed.size
            refine heldOne (i := 14) (by kernel_rfl) (opRun (i := 14) (d := 7) (v := .pointer (some ⟨gv1, 0, none⟩)) (w' := wr.drew.alloc (.cells #[.int .i64 0, .int .i64 0] 24)) rfl (by kernel_rfl) rfl (by rw [hgv1]; kernel_rfl) ⟨eG1, ?_⟩)
            simp only [Act.put, List.setIfInBounds_toArray, List.set_cons_zero, List.set_cons_succ]
            refine heldOne (i := 15) (by kernel_rfl) (opStore (i := 15) rfl (by kernel_rfl) rfl 24 (.tmp 7) (.tmp 36) rfl gv1 #[.int .i64 (1 + pick ps 9), .int .i64 (pick pc 5)] (by kernel_rfl) (by kernel_rfl) 24 _ rG1 baSize rfl hone2 ⟨oBelow_rowP eG1 hgle1 _, ?_⟩)
            have eS2 := oBelow_rowP eG1 hgle1 (#[.int .i64 (1 + pick ps 9), .int .i64 (pick pc 5)])
            have rS2 := setRow_heap _ gv1 _ (#[.int .i64 (1 + pick ps 9), .int .i64 (pick pc 5)]) 24 _ rG1
            exact wpAnyH_done (by kernel_rfl) (HK2.out gv1 _ ⟨rS2, eS2, hgle1⟩) _
          · obtain ⟨gv3, hgv3⟩ : ∃ g, g = wr.drew.heap.size := ⟨_, rfl⟩
            have aG3 : Below wr.drew.heap.size wr.drew (wr.drew.alloc (.cells #[.int .i64 0, .int .i64 0] 24)) := (Below.refl _ _).alloc (Nat.le_refl _) _
            have eG3 : Below wr.heap.size wr (wr.drew.alloc (.cells #[.int .i64 0, .int .i64 0] 24)) := ed.trans (aG3.mono ed.size)
            have rG3 : (wr.drew.alloc (.cells #[.int .i64 0, .int .i64 0] 24)).heap[gv3]? = some (.cells #[.int .i64 0, .int .i64 0] 24) := by rw [hgv3]; exact heap_alloc_new _ _
            have hgle3 : wr.heap.size ≤ gv3 := by rw [hgv3]; exact ed.size
            refine (opRun (i := 14) (d := 7) (v := .pointer (some ⟨gv3, 0, none⟩)) (w' := wr.drew.alloc (.cells #[.int .i64 0, .int .i64 0] 24)) rfl (by kernel_rfl) rfl (by rw [hgv3]; kernel_rfl) ⟨eG3, ?_⟩)
            simp only [Act.put, List.setIfInBounds_toArray, List.set_cons_zero, List.set_cons_succ]
            refine heldOne (i := 12) (by kernel_rfl) (opCall (i := 12) (d := 35) (f := 10) (args := #[.int .i64 pc, .int .i64 5]) rfl (by kernel_rfl) rfl (by kernel_rfl) ((ipc.picked 5 _ (by omega) (by omega)).mono ?_))
            rintro e' w' ⟨rfl, rfl⟩
            refine ⟨_, rfl, eG3, ?_⟩
            simp only [Act.put, List.setIfInBounds_toArray, List.set_cons_zero, List.set_cons_succ]
            refine heldTake (i := 13) 36 (v := .agg #[.int .i64 (1 + pick ps 9), .int .i64 (pick pc 5)]) rfl rfl (by kernel_rfl) (by kernel_rfl) (by kernel_rfl) (fun _ _ _ h => h) (Or.inl ⟨by rfl, fun _ _ => by kernel_rfl⟩) eG3 ?_
            simp only [Act.put, List.setIfInBounds_toArray, List.set_cons_zero, List.set_cons_succ]
            refine heldOne (i := 15) (by kernel_rfl) (opStore (i := 15) rfl (by kernel_rfl) rfl 24 (.tmp 7) (.tmp 36) rfl gv3 #[.int .i64 (1 + pick ps 9), .int .i64 (pick pc 5)] (by kernel_rfl) (by kernel_rfl) 24 _ rG3 baSize rfl hone2 ⟨oBelow_rowP eG3 hgle3 _, ?_⟩)
            have eS4 := oBelow_rowP eG3 hgle3 (#[.int .i64 (1 + pick ps 9), .int .i64 (pick pc 5)])
            have rS4 := setRow_heap _ gv3 _ (#[.int .i64 (1 + pick ps 9), .int .i64 (pick pc 5)]) 24 _ rG3
            exact wpAnyH_done (by kernel_rfl) (HK2.out gv3 _ ⟨rS4, eS4, hgle3⟩) _
        · obtain ⟨gv5, hgv5⟩ : ∃ g, g = wr.drew.heap.size := ⟨_, rfl⟩
          have aG5 : Below wr.drew.heap.size wr.drew (wr.drew.alloc (.cells #[.int .i64 0, .int .i64 0] 24)) := (Below.refl _ _).alloc (Nat.le_refl _) _
          have eG5 : Below wr.heap.size wr (wr.drew.alloc (.cells #[.int .i64 0, .int .i64 0] 24)) := ed.trans (aG5.mono ed.size)
          have rG5 : (wr.drew.alloc (.cells #[.int .i64 0, .int .i64 0] 24)).heap[gv5]? = some (.cells #[.int .i64 0, .int .i64 0] 24) := by rw [hgv5]; exact heap_alloc_new _ _
          have hgle5 : wr.heap.size ≤ gv5 := by rw [hgv5]; exact ed.size
          refine (opRun (i := 14) (d := 7) (v := .pointer (some ⟨gv5, 0, none⟩)) (w' := wr.drew.alloc (.cells #[.int .i64 0, .int .i64 0] 24)) rfl (by kernel_rfl) rfl (by rw [hgv5]; kernel_rfl) ⟨eG5, ?_⟩)
          simp only [Act.put, List.setIfInBounds_toArray, List.set_cons_zero, List.set_cons_succ]
          refine heldOne (i := 5) (by kernel_rfl) (opCall (i := 5) (d := 28) (f := 10) (args := #[.int .i64 ps, .int .i64 9]) rfl (by kernel_rfl) rfl (by kernel_rfl) ((ips.picked 9 _ (by omega) (by omega)).mono ?_))
          rintro e' w' ⟨rfl, rfl⟩
          refine ⟨_, rfl, eG5, ?_⟩
          simp only [Act.put, List.setIfInBounds_toArray, List.set_cons_zero, List.set_cons_succ]
          refine heldTake (i := 6) 29 (v := .int .i64 (1 + pick ps 9)) rfl rfl (by kernel_rfl) (by kernel_rfl) (by kernel_rfl) (fun _ _ _ h => h) (yieldUp1 (by rfl) (.tmp 28) rfl (pick ps 9) rfl (by omega) (by omega)) eG5 ?_
          simp only [Act.put, List.setIfInBounds_toArray, List.set_cons_zero, List.set_cons_succ]
          refine heldOne (i := 12) (by kernel_rfl) (opCall (i := 12) (d := 35) (f := 10) (args := #[.int .i64 pc, .int .i64 5]) rfl (by kernel_rfl) rfl (by kernel_rfl) ((ipc.picked 5 _ (by omega) (by omega)).mono ?_))
          rintro e' w' ⟨rfl, rfl⟩
          refine ⟨_, rfl, eG5, ?_⟩
          simp only [Act.put, List.setIfInBounds_toArray, List.set_cons_zero, List.set_cons_succ]
          refine heldTake (i := 13) 36 (v := .agg #[.int .i64 (1 + pick ps 9), .int .i64 (pick pc 5)]) rfl rfl (by kernel_rfl) (by kernel_rfl) (by kernel_rfl) (fun _ _ _ h => h) (Or.inl ⟨by rfl, fun _ _ => by kernel_rfl⟩) eG5 ?_
          simp only [Act.put, List.setIfInBounds_toArray, List.set_cons_zero, List.set_cons_succ]
          refine heldOne (i := 15) (by kernel_rfl) (opStore (i := 15) rfl (by kernel_rfl) rfl 24 (.tmp 7) (.tmp 36) rfl gv5 #[.int .i64 (1 + pick ps 9), .int .i64 (pick pc 5)] (by kernel_rfl) (by kernel_rfl) 24 _ rG5 baSize rfl hone2 ⟨oBelow_rowP eG5 hgle5 _, ?_⟩)
          have eS6 := oBelow_rowP eG5 hgle5 (#[.int .i64 (1 + pick ps 9), .int .i64 (pick pc 5)])
          have rS6 := setRow_heap _ gv5 _ (#[.int .i64 (1 + pick ps 9), .int .i64 (pick pc 5)]) 24 _ rG5
          exact wpAnyH_done (by kernel_rfl) (HK2.out gv5 _ ⟨rS6, eS6, hgle5⟩) _
      intro gb W1 hW1
      obtain ⟨qb, e1, hgb⟩ := hW1
      have hb : BalMay ⟨1 + pick ps 9, pick pc 5⟩ := by simp only [BalMay]; omega
      have hbr : 1 + pick ps 9 ≤ 9 := by omega
      generalize hR1 : 1 + pick ps 9 = R1 at qb hb hbr ⊢
      generalize hR2 : pick pc 5 = R2 at qb hb ⊢
      clear hR1 hR2 p9 p5 hone2
      have HB : Hid (BalMay ⟨R1, R2⟩) := hb
      have e1w : Below G W0 W1 := hbel.trans (e1.mono (by omega))
      have hw1 := hwr.trans (e1.mono hwr.size)
      have hr1 := pRange e1 ltb hr
      have ltb1 : b < W1.heap.size := Nat.lt_of_lt_of_le ltb e1.size
      have qa1 := (e1.block G ltG0).trans qa
      have ltG1 : G < W1.heap.size := Nat.lt_of_lt_of_le ltG0 e1.size
      have HO1 : Hid (Ov W1 (.slice ay M cy) L) := HOA.out.below e1
      have sa := sa0.below e1
      have ta := ta0.below e1
      have rr1 := (e1.block w.heap.size (by omega)).trans rr0
      have ltb7 : gb < W1.heap.size := (Array.getElem?_eq_some_iff.1 qb).1
      have hGgb : G < gb := by omega
      clear hb e1 hbel hwr hr ltb qa ltG0 HOA sa0 ta0 rr0 hgb
      have hix := runIndexP b off N cp j hjN
      have ck : W1.cell? ⟨b, off + 5 * j, none⟩ = some (.int .i64 pk) := hr1 0 _ rfl
      go_wp2_with fail
      clear ck
      refine (ipk.picked 2 _ (by omega) (by omega)).mono ?_
      rintro e W1' ⟨rfl, rfl⟩
      by_cases hk2 : pick pk 2 = 0
      · rw [hk2]
        clear hk2 q2 q5 q50
        have cb0 : W1'.cell? ⟨gb, 0, none⟩ = some (.int .i64 R1) := cell_of_row _ _ 0 _ _ _ qb
        have cb1 : W1'.cell? ⟨gb, 1, none⟩ = some (.int .i64 R2) := cell_of_row _ _ 1 _ _ _ qb
        go_wp2_with ((with_reducible (refine pxLook ?_)); (refine wpList_load_row rfl 27 (.tmp 4) rfl G rfl 27 _ (0, 0) _ qa1 Tryd.underlying27 rfl ac3k ?_))
        clear cb0 cb1
        refine (promise_own ⟨ar, an⟩ (.slice ay M cy) L ⟨R1, R2⟩ W1' sa ta).mono ?_
        rintro e w2 ⟨y2, z2, rfl, o2, oz2, b2⟩
        have e2w : Below G W0 w2 := e1w.trans (b2.mono (by omega))
        have qa2 := (b2.block G ltG1).trans qa1
        have HO2 : Hid (Ov w2 (.slice ay M cy) L) := HO1.out.below b2
        have lt2 := b2.size
        rcases pro_split HMA.out HB.out with ⟨f1, f2, f3, f4⟩ | ⟨f1, f2, f3, f4⟩
        · rw [f1, f2]
          rw [f3] at o2
          obtain ⟨g5, c5, rfl⟩ := ownsV_shape o2
          simp only [acA, List.length_nil]
          have bN : Below w2.heap.size w2 (w2.alloc (.cells #[.int .i64 0, .int .i64 0, .slice none 0 0] 27)) := (Below.refl _ _).alloc (Nat.le_refl _) _
          have rN := heap_alloc_new w2 (.cells #[.int .i64 0, .int .i64 0, .slice none 0 0] 27)
          have on : (#[.int .i64 0, .int .i64 0, .slice g5 0 c5] : Array Value).all (·.oneCell') = true := by simp [Value.oneCell']
          generalize hWN : w2.alloc (.cells #[.int .i64 0, .int .i64 0, .slice none 0 0] 27) = WN at bN rN
          go_upto_region 9 with ((with_reducible (refine pxLook ?_)); (refine wpList_store_row rfl 27 (.tmp 8) (.tmp 48) rfl w2.heap.size (#[.int .i64 0, .int .i64 0, .slice g5 0 c5]) rfl rfl 27 _ rN ac3k rfl on ?_))
          clear hWN
          replace bN := oBelow_rowP bN (Nat.le_refl _) (#[.int .i64 0, .int .i64 0, .slice g5 0 c5])
          generalize WN.setRow w2.heap.size (#[.int .i64 0, .int .i64 0, .slice g5 0 c5]) = W4 at bN ⊢
          have e4 : Below G W0 W4 := e2w.trans (bN.mono (by omega))
          have qa4 := (bN.block G (by omega)).trans qa2
          have HO4 : Hid (Ov W4 (.slice ay M cy) L) := HO2.out.below bN
          clear rN bN o2 oz2 f1 f2 f3 f4 b2
          go_wp2
          go_roundw
          case rel => exact ⟨j + 1, ⟨⟨ar, an⟩, L⟩, _, by omega, by omega, by go_num, by simp, qa4, HO4.out, HMA.out, hpa, e4⟩
          case measure => simp [intOf]; omega
        · rw [f1, f2]
          rw [f3] at o2
          have hacc : Hid (AccMay ⟨⟨R1, R2⟩, L⟩) := HMA.out.prom HB.out f4
          replace o2 : w2.ownsRow W1'.heap.size 39 8 y2 M (vtL L) := ownsRow_len o2 HML.out
          obtain ⟨g5, c5, rfl⟩ := ownsV_shape o2
          simp only [acA]
          have bN : Below w2.heap.size w2 (w2.alloc (.cells #[.int .i64 0, .int .i64 0, .slice none 0 0] 27)) := (Below.refl _ _).alloc (Nat.le_refl _) _
          have rN := heap_alloc_new w2 (.cells #[.int .i64 0, .int .i64 0, .slice none 0 0] 27)
          have on : (#[.int .i64 R1, .int .i64 R2, .slice g5 M c5] : Array Value).all (·.oneCell') = true := by simp [Value.oneCell']
          generalize hWN : w2.alloc (.cells #[.int .i64 0, .int .i64 0, .slice none 0 0] 27) = WN at bN rN
          go_upto_region 9 with ((with_reducible (refine pxLook ?_)); (refine wpList_store_row rfl 27 (.tmp 8) (.tmp 48) rfl w2.heap.size (#[.int .i64 R1, .int .i64 R2, .slice g5 M c5]) rfl rfl 27 _ rN ac3k rfl on ?_))
          clear hWN
          have q8 := setRow_heap WN w2.heap.size _ (#[.int .i64 R1, .int .i64 R2, .slice g5 M c5]) 27 _ rN
          replace bN := oBelow_rowP bN (Nat.le_refl _) (#[.int .i64 R1, .int .i64 R2, .slice g5 M c5])
          generalize WN.setRow w2.heap.size (#[.int .i64 R1, .int .i64 R2, .slice g5 M c5]) = W4 at bN q8 ⊢
          have e4 : Below G W0 W4 := e2w.trans (bN.mono (by omega))
          have qa4 := (bN.block G (by omega)).trans qa2
          have HO4 : Hid (W4.ownsRow W1'.heap.size 39 8 (.slice g5 M c5) M (vtL L)) := ownsV_keep o2 (fun k hk => bN.block k (o2.lt k hk).2)
          obtain ⟨g8, hg8⟩ : ∃ g, g = w2.heap.size := ⟨_, rfl⟩
          rw [← hg8] at q8 ⊢
          clear rN bN o2 oz2 f1 f2 f3 f4 b2 HO2 qa2 hg8
          go_wp2_with ((with_reducible (refine pxLook ?_)); first | (refine wpList_load_row rfl 27 (.tmp 8) rfl g8 rfl 27 _ (0, 0) _ q8 Tryd.underlying27 rfl ac3k ?_) | (refine wpList_store_row rfl 27 (.tmp 4) (.tmp 62) rfl G (#[.int .i64 R1, .int .i64 R2, .slice g5 M c5]) rfl rfl 27 _ qa4 ac3k rfl on ?_))
          have qa5 := setRow_heap W4 G _ (#[.int .i64 R1, .int .i64 R2, .slice g5 M c5]) 27 _ qa4
          have e5 := oBelow_rowP e4 (Nat.le_refl _) (#[.int .i64 R1, .int .i64 R2, .slice g5 M c5])
          have HO5 : Hid (Ov (W4.setRow G #[.int .i64 R1, .int .i64 R2, .slice g5 M c5]) (.slice g5 M c5) L) := by
            unfold Hid Ov
            rw [HML.out]
            exact ownsRow_base (ownsV_keep HO4.out (fun k hk => setRow_other _ _ _ _ (by have := (HO4.out.lt k hk).1; omega))) (Nat.zero_le _)
          go_roundw
          case rel => exact ⟨j + 1, ⟨⟨R1, R2⟩, L⟩, _, by omega, by omega, by go_num, by simp, qa5, HO5.out, hacc.out, hbr, e5⟩
          case measure => simp [intOf]; omega
      · have hk1 : pick pk 2 = 1 := by omega
        rw [hk1]
        clear hk2 hk1 q2 hix
        have hvm : VtMay ⟨pick pn 5, ⟨R1, R2⟩, ⟨2, 0, pick pv 50, 0, 0⟩⟩ := ⟨by simp only; omega, HB.out, by show comE 2 0 (pick pv 50) 0 0 = 0; exact comE_ok (by omega) (by unfold InC; omega) (by omega)⟩
        have HV : Hid (VtMay ⟨pick pn 5, ⟨R1, R2⟩, ⟨2, 0, pick pv 50, 0, 0⟩⟩) := hvm
        obtain ⟨P1, hP1⟩ : ∃ P1, accP ⟨⟨ar, an⟩, L⟩ ⟨pick pn 5, ⟨R1, R2⟩, ⟨2, 0, pick pv 50, 0, 0⟩⟩ = P1 := ⟨_, rfl⟩
        obtain ⟨L1, hL1⟩ : ∃ L1, accL ⟨⟨ar, an⟩, L⟩ ⟨pick pn 5, ⟨R1, R2⟩, ⟨2, 0, pick pv 50, 0, 0⟩⟩ = L1 := ⟨_, rfl⟩
        obtain ⟨E1, hE1⟩ : ∃ E1, votE ⟨⟨ar, an⟩, L⟩ ⟨pick pn 5, ⟨R1, R2⟩, ⟨2, 0, pick pv 50, 0, 0⟩⟩ = E1 := ⟨_, rfl⟩
        obtain ⟨qr, qn⟩ := P1
        have HP1 : Hid (accP ⟨⟨ar, an⟩, L⟩ ⟨pick pn 5, ⟨R1, R2⟩, ⟨2, 0, pick pv 50, 0, 0⟩⟩ = ⟨qr, qn⟩ ∧ accL ⟨⟨ar, an⟩, L⟩ ⟨pick pn 5, ⟨R1, R2⟩, ⟨2, 0, pick pv 50, 0, 0⟩⟩ = L1 ∧ votE ⟨⟨ar, an⟩, L⟩ ⟨pick pn 5, ⟨R1, R2⟩, ⟨2, 0, pick pv 50, 0, 0⟩⟩ = E1) := ⟨hP1, hL1, hE1⟩
        obtain ⟨K1, hK1⟩ : ∃ K1, L1.length = K1 := ⟨_, rfl⟩
        have HK1 : Hid (L1.length = K1) := hK1
        clear hvm hP1 hL1 hE1 hK1
        go_wp2_with fail
        apply p_mergeG3 (fun g g5 c5 W2 => W2.heap[g]? = some (.cells #[.int .i64 qr, .int .i64 qn, .slice g5 K1 c5] 27) ∧ W2.ownsRow W1'.heap.size 39 8 (.slice g5 K1 c5) K1 (vtL L1) ∧ Below W1'.heap.size W1' W2 ∧ W1'.heap.size ≤ g)
        · intro K2 HK2
          have hr := hr1
          have ltb := ltb1
          have qa := qa1
          have ltG := ltG1
          have ed : Below W1'.heap.size W1' W1'.drew := (Below.refl _ _).drew
          refine wp_region_held (S := fun w' => Below W1'.heap.size W1' w') (by kernel_rfl) ?_
          refine heldTake (i := 0) 64 (v := .agg #[.int .i64 ar, .int .i64 an, .slice ay M cy]) rfl rfl (by kernel_rfl) (by kernel_rfl) (by kernel_rfl) (fun _ _ _ h => h) (yieldRow (by rfl) 27 (.tmp 4) rfl G rfl 27 _ (fun w' hw' => (hw'.block _ ltG).trans qa) Tryd.underlying27 rfl ac3k) ed ?_
          simp only [Act.put, List.setIfInBounds_toArray, List.set_cons_zero, List.set_cons_succ]
          refine heldTake (i := 1) 65 (v := .slice (some ⟨b, off, none⟩) N cp) rfl rfl (by kernel_rfl) (by kernel_rfl) (by kernel_rfl) (fun _ _ _ h => h) (Or.inl ⟨by rfl, fun _ _ => by kernel_rfl⟩) ed ?_
          simp only [Act.put, List.setIfInBounds_toArray, List.set_cons_zero, List.set_cons_succ]
          refine heldTake (i := 2) 66 (v := .int .i64 (j : Int)) rfl rfl (by kernel_rfl) (by kernel_rfl) (by kernel_rfl) (fun _ _ _ h => h) (Or.inl ⟨by rfl, fun _ _ => by kernel_rfl⟩) ed ?_
          simp only [Act.put, List.setIfInBounds_toArray, List.set_cons_zero, List.set_cons_succ]
          refine heldTake (i := 3) 67 (v := .pointer (some ⟨b, off + 5 * j, none⟩)) rfl rfl (by kernel_rfl) (by kernel_rfl) (by kernel_rfl) (fun _ _ _ h => h) (yieldIndexP (by rfl) (.tmp 65) (.tmp 66) rfl b off N cp j hjN rfl rfl) ed ?_
          simp only [Act.put, List.setIfInBounds_toArray, List.set_cons_zero, List.set_cons_succ]
          refine heldTake (i := 4) 68 (v := .pointer (some ⟨b, off + 5 * j + 3, none⟩)) rfl rfl (by kernel_rfl) (by kernel_rfl) (by kernel_rfl) (fun _ _ _ h => h) (Or.inl ⟨by rfl, fun _ _ => by kernel_rfl⟩) ed ?_
          simp only [Act.put, List.setIfInBounds_toArray, List.set_cons_zero, List.set_cons_succ]
          refine heldTake (i := 5) 69 (v := .int .i64 pn) rfl rfl (by kernel_rfl) (by kernel_rfl) (by kernel_rfl) (fun _ _ _ h => h) (yieldCell (by rfl) 3 (.tmp 68) rfl _ Tryd.underlying3 rfl ⟨b, off + 5 * j + 3, none⟩ rfl (.int .i64 pn) (fun w' hw' => (hw'.cell (p := ⟨b, off + 5 * j + 3, none⟩) ltb).trans (hr 3 _ rfl))) ed ?_
          simp only [Act.put, List.setIfInBounds_toArray, List.set_cons_zero, List.set_cons_succ]
          refine heldTake (i := 7) 71 (v := .agg #[.int .i64 R1, .int .i64 R2]) rfl rfl (by kernel_rfl) (by kernel_rfl) (by kernel_rfl) (fun _ _ _ h => h) (yieldRow (by rfl) 24 (.tmp 7) rfl gb rfl 24 _ (fun w' hw' => (hw'.block _ ltb7).trans qb) Tryd.underlying24 rfl baSize) ed ?_
          simp only [Act.put, List.setIfInBounds_toArray, List.set_cons_zero, List.set_cons_succ]
          refine heldTake (i := 8) 72 (v := .slice (some ⟨b, off, none⟩) N cp) rfl rfl (by kernel_rfl) (by kernel_rfl) (by kernel_rfl) (fun _ _ _ h => h) (Or.inl ⟨by rfl, fun _ _ => by kernel_rfl⟩) ed ?_
          simp only [Act.put, List.setIfInBounds_toArray, List.set_cons_zero, List.set_cons_succ]
          refine heldTake (i := 9) 73 (v := .int .i64 (j : Int)) rfl rfl (by kernel_rfl) (by kernel_rfl) (by kernel_rfl) (fun _ _ _ h => h) (Or.inl ⟨by rfl, fun _ _ => by kernel_rfl⟩) ed ?_
          simp only [Act.put, List.setIfInBounds_toArray, List.set_cons_zero, List.set_cons_succ]
          refine heldTake (i := 10) 74 (v := .pointer (some ⟨b, off + 5 * j, none⟩)) rfl rfl (by kernel_rfl) (by kernel_rfl) (by kernel_rfl) (fun _ _ _ h => h) (yieldIndexP (by rfl) (.tmp 72) (.tmp 73) rfl b off N cp j hjN rfl rfl) ed ?_
          simp only [Act.put, List.setIfInBounds_toArray, List.set_cons_zero, List.set_cons_succ]
          refine heldTake (i := 11) 75 (v := .pointer (some ⟨b, off + 5 * j + 4, none⟩)) rfl rfl (by kernel_rfl) (by kernel_rfl) (by kernel_rfl) (fun _ _ _ h => h) (Or.inl ⟨by rfl, fun _ _ => by kernel_rfl⟩) ed ?_
          simp only [Act.put, List.setIfInBounds_toArray, List.set_cons_zero, List.set_cons_succ]
          refine heldTake (i := 12) 76 (v := .int .i64 pv) rfl rfl (by kernel_rfl) (by kernel_rfl) (by kernel_rfl) (fun _ _ _ h => h) (yieldCell (by rfl) 3 (.tmp 75) rfl _ Tryd.underlying3 rfl ⟨b, off + 5 * j + 4, none⟩ rfl (.int .i64 pv) (fun w' hw' => (hw'.cell (p := ⟨b, off + 5 * j + 4, none⟩) ltb).trans (hr 4 _ rfl))) ed ?_
          simp only [Act.put, List.setIfInBounds_toArray, List.set_cons_zero, List.set_cons_succ]
          refine heldTwo (i := 6) (i' := 20) (by kernel_rfl) ?_ ?_
          · refine (opCall (i := 6) (d := 70) (f := 10) (args := #[.int .i64 pn, .int .i64 5]) rfl (by kernel_rfl) rfl (by kernel_rfl) ((ipn.picked 5 _ (by omega) (by omega)).mono ?_))
            rintro e' w' ⟨rfl, rfl⟩
            refine ⟨_, rfl, ed, ?_⟩
            simp only [Act.put, List.setIfInBounds_toArray, List.set_cons_zero, List.set_cons_succ]
            refine heldTwo (i := 13) (i' := 20) (by kernel_rfl) ?_ ?_
            · refine (opCall (i := 13) (d := 77) (f := 10) (args := #[.int .i64 pv, .int .i64 50]) rfl (by kernel_rfl) rfl (by kernel_rfl) ((ipv.picked 50 _ (by omega) (by omega)).mono ?_))
              rintro e' w' ⟨rfl, rfl⟩
              refine ⟨_, rfl, ed, ?_⟩
              simp only [Act.put, List.setIfInBounds_toArray, List.set_cons_zero, List.set_cons_succ]
              refine heldTake (i := 14) 78 (v := .agg #[.int .i64 2, .int .i64 0, .int .i64 (pick pv 50), .int .i64 0, .int .i64 0]) rfl rfl (by kernel_rfl) (by kernel_rfl) (by kernel_rfl) (fun _ _ _ h => h) (Or.inl ⟨by rfl, fun _ _ => by kernel_rfl⟩) ed ?_
              simp only [Act.put, List.setIfInBounds_toArray, List.set_cons_zero, List.set_cons_succ]
              refine heldTake (i := 15) 79 (v := .agg #[.int .i64 (pick pn 5), .int .i64 R1, .int .i64 R2, .int .i64 2, .int .i64 0, .int .i64 (pick pv 50), .int .i64 0, .int .i64 0]) rfl rfl (by kernel_rfl) (by kernel_rfl) (by kernel_rfl) (fun _ _ _ h => h) (Or.inl ⟨by rfl, fun _ _ => by kernel_rfl⟩) ed ?_
              simp only [Act.put, List.setIfInBounds_toArray, List.set_cons_zero, List.set_cons_succ]
              refine heldTwo (i := 16) (i' := 20) (by kernel_rfl) ?_ ?_
              · refine (opCall (i := 16) (d := 80) (f := 12) (args := #[.agg #[.int .i64 ar, .int .i64 an, .slice ay M cy], .agg #[.int .i64 (pick pn 5), .int .i64 R1, .int .i64 R2, .int .i64 2, .int .i64 0, .int .i64 (pick pv 50), .int .i64 0, .int .i64 0]]) rfl (by kernel_rfl) rfl (by kernel_rfl) ((accept_own ⟨ar, an⟩ (.slice ay M cy) L ⟨pick pn 5, ⟨R1, R2⟩, ⟨2, 0, pick pv 50, 0, 0⟩⟩ _ (sa.below ed) (ta.below ed)).mono ?_))
                rintro e' wc1 ⟨y5, rfl, o5, n5, bc1⟩
                have ec1 : Below W1'.heap.size W1' wc1 := ed.trans (bc1.mono ed.size)
                rw [HP1.out.1, HP1.out.2.2]
                rw [HP1.out.2.1] at o5
                obtain ⟨g5, c5, h5⟩ := ownsV_shape o5
                rw [HK1.out] at h5
                subst h5
                simp only [acA]
                refine ⟨_, rfl, ec1, ?_⟩
                simp only [Act.put, List.setIfInBounds_toArray, List.set_cons_zero, List.set_cons_succ]
                refine heldTake (i := 17) 63 (v := .tuple #[.agg #[.int .i64 qr, .int .i64 qn, .slice g5 K1 c5], .int .i64 E1]) rfl rfl (by kernel_rfl) (by kernel_rfl) (by kernel_rfl) (fun _ _ _ h => h) (Or.inl ⟨by rfl, fun _ _ => by kernel_rfl⟩) ec1 ?_
                simp only [Act.put, List.setIfInBounds_toArray, List.set_cons_zero, List.set_cons_succ]
                refine heldTake (i := 18) 81 (v := .agg #[.int .i64 qr, .int .i64 qn, .slice g5 K1 c5]) rfl rfl (by kernel_rfl) (by kernel_rfl) (by kernel_rfl) (fun _ _ _ h => h) (Or.inl ⟨by rfl, fun _ _ => by kernel_rfl⟩) ec1 ?_
                simp only [Act.put, List.setIfInBounds_toArray, List.set_cons_zero, List.set_cons_succ]
                refine heldTake (i := 19) 82 (v := .int .i64 E1) rfl rfl (by kernel_rfl) (by kernel_rfl) (by kernel_rfl) (fun _ _ _ h => h) (Or.inl ⟨by rfl, fun _ _ => by kernel_rfl⟩) ec1 ?_
                simp only [Act.put, List.setIfInBounds_toArray, List.set_cons_zero, List.set_cons_succ]
                obtain ⟨gv2, hgv2⟩ : ∃ g, g = wc1.heap.size := ⟨_, rfl⟩
                have aG2 : Below wc1.heap.size wc1 (wc1.alloc (.cells #[.int .i64 0, .int .i64 0, .slice none 0 0] 27)) := (Below.refl _ _).alloc (Nat.le_refl _) _
                have eG2 : Below W1'.heap.size W1' (wc1.alloc (.cells #[.int .i64 0, .int .i64 0, .slice none 0 0] 27)) := ec1.trans (aG2.mono ec1.size)
                have rG2 : (wc1.alloc (.cells #[.int .i64 0, .int .i64 0, .slice none 0 0] 27)).heap[gv2]? = some (.cells #[.int .i64 0, .int .i64 0, .slice none 0 0] 27) := by rw [hgv2]; exact heap_alloc_new _ _
                have hgle2 : W1'.heap.size ≤ gv2 := by rw [hgv2]; exact ec1.size
                refine heldOne (i := 20) (by kernel_rfl) (opRun (i := 20) (d := 11) (v := .pointer (some ⟨gv2, 0, none⟩)) (w' := wc1.alloc (.cells #[.int .i64 0, .int .i64 0, .slice none 0 0] 27)) rfl (by kernel_rfl) rfl (by rw [hgv2]; kernel_rfl) ⟨eG2, ?_⟩)
                simp only [Act.put, List.setIfInBounds_toArray, List.set_cons_zero, List.set_cons_succ]
                have o53 := o5.alloc (.cells #[.int .i64 0, .int .i64 0, .slice none 0 0] 27)
                refine heldOne (i := 21) (by kernel_rfl) (opStore (i := 21) rfl (by kernel_rfl) rfl 27 (.tmp 11) (.tmp 81) rfl gv2 #[.int .i64 qr, .int .i64 qn, .slice g5 K1 c5] (by kernel_rfl) (by kernel_rfl) 27 _ rG2 ac3k rfl (by simp [Value.oneCell']) ⟨oBelow_rowP eG2 hgle2 _, ?_⟩)
                have eS4 := oBelow_rowP eG2 hgle2 (#[.int .i64 qr, .int .i64 qn, .slice g5 K1 c5])
                have rS4 := setRow_heap _ gv2 _ (#[.int .i64 qr, .int .i64 qn, .slice g5 K1 c5]) 27 _ rG2
                refine heldTake (i := 22) 12 (v := .int .i64 E1) rfl rfl (by kernel_rfl) (by kernel_rfl) (by kernel_rfl) (fun _ _ _ h => h) (Or.inl ⟨by rfl, fun _ _ => by kernel_rfl⟩) eS4 ?_
                simp only [Act.put, List.setIfInBounds_toArray, List.set_cons_zero, List.set_cons_succ]
                exact wpAnyH_done (by kernel_rfl) (HK2.out gv2 g5 c5 _ ⟨rS4, ownsRow_base (ownsRow_len (ownsV_keep o53 (fun k hk => setRow_other _ _ _ _ (by have := (o5.lt k hk).2; omega))) HK1.out) ed.size, eS4, hgle2⟩) _
              · obtain ⟨gv5, hgv5⟩ : ∃ g, g = W1'.drew.heap.size := ⟨_, rfl⟩
                have aG5 : Below W1'.drew.heap.size W1'.drew (W1'.drew.alloc (.cells #[.int .i64 0, .int .i64 0, .slice none 0 0] 27)) := (Below.refl _ _).alloc (Nat.le_refl _) _
                have eG5 : Below W1'.heap.size W1' (W1'.drew.alloc (.cells #[.int .i64 0, .int .i64 0, .slice none 0 0] 27)) := ed.trans (aG5.mono ed.size)
                have rG5 : (W1'.drew.alloc (.cells #[.int .i64 0, .int .i64 0, .slice none 0 0] 27)).heap[gv5]? = some (.cells #[.int .i64 0, .int .i64 0, .slice none 0 0] 27) := by rw [hgv5]; exact heap_alloc_new _ _
                have hgle5 : W1'.heap.size ≤ gv5 := by rw [hgv5]; exact ed.size
                refine (opRun (i := 20) (d := 11) (v := .pointer (some ⟨gv5, 0, none⟩)) (w' := W1'.drew.alloc (.cells #[.int .i64 0, .int .i64 0, .slice none 0 0] 27)) rfl (by kernel_rfl) rfl (by rw [hgv5]; kernel_rfl) ⟨eG5, ?_⟩)
                simp only [Act.put, List.setIfInBounds_toArray, List.set_cons_zero, List.set_cons_succ]
                refine heldOne (i := 16) (by kernel_rfl) (opCall (i := 16) (d := 80) (f := 12) (args := #[.agg #[.int .i64 ar, .int .i64 an, .slice ay M cy], .agg #[.int .i64 (pick pn 5), .int .i64 R1, .int .i64 R2, .int .i64 2, .int .i64 0, .int .i64 (pick pv 50), .int .i64 0, .int .i64 0]]) rfl (by kernel_rfl) rfl (by kernel_rfl) ((accept_own ⟨ar, an⟩ (.slice ay M cy) L ⟨pick pn 5, ⟨R1, R2⟩, ⟨2, 0, pick pv 50, 0, 0⟩⟩ _ (sa.below eG5) (ta.below eG5)).mono ?_))
                rintro e' wc6 ⟨y5, rfl, o5, n5, bc6⟩
                have ec6 : Below W1'.heap.size W1' wc6 := eG5.trans (bc6.mono eG5.size)
                rw [HP1.out.1, HP1.out.2.2]
                rw [HP1.out.2.1] at o5
                obtain ⟨g5, c5, h5⟩ := ownsV_shape o5
                rw [HK1.out] at h5
                subst h5
                simp only [acA]
                have rg6 := (bc6.block _ (Array.getElem?_eq_some_iff.1 rG5).1).trans rG5
                have lg7 : gv5 < (W1'.drew.alloc (.cells #[.int .i64 0, .int .i64 0, .slice none 0 0] 27)).heap.size := (Array.getElem?_eq_some_iff.1 rG5).1
                refine ⟨_, rfl, ec6, ?_⟩
                simp only [Act.put, List.setIfInBounds_toArray, List.set_cons_zero, List.set_cons_succ]
                refine heldTake (i := 17) 63 (v := .tuple #[.agg #[.int .i64 qr, .int .i64 qn, .slice g5 K1 c5], .int .i64 E1]) rfl rfl (by kernel_rfl) (by kernel_rfl) (by kernel_rfl) (fun _ _ _ h => h) (Or.inl ⟨by rfl, fun _ _ => by kernel_rfl⟩) ec6 ?_
                simp only [Act.put, List.setIfInBounds_toArray, List.set_cons_zero, List.set_cons_succ]
                refine heldTake (i := 18) 81 (v := .agg #[.int .i64 qr, .int .i64 qn, .slice g5 K1 c5]) rfl rfl (by kernel_rfl) (by kernel_rfl) (by kernel_rfl) (fun _ _ _ h => h) (Or.inl ⟨by rfl, fun _ _ => by kernel_rfl⟩) ec6 ?_
                simp only [Act.put, List.setIfInBounds_toArray, List.set_cons_zero, List.set_cons_succ]
                refine heldTake (i := 19) 82 (v := .int .i64 E1) rfl rfl (by kernel_rfl) (by kernel_rfl) (by kernel_rfl) (fun _ _ _ h => h) (Or.inl ⟨by rfl, fun _ _ => by kernel_rfl⟩) ec6 ?_
                simp only [Act.put, List.setIfInBounds_toArray, List.set_cons_zero, List.set_cons_succ]
                refine heldOne (i := 21) (by kernel_rfl) (opStore (i := 21) rfl (by kernel_rfl) rfl 27 (.tmp 11) (.tmp 81) rfl gv5 #[.int .i64 qr, .int .i64 qn, .slice g5 K1 c5] (by kernel_rfl) (by kernel_rfl) 27 _ rg6 ac3k rfl (by simp [Value.oneCell']) ⟨oBelow_rowP ec6 hgle5 _, ?_⟩)
                have eS8 := oBelow_rowP ec6 hgle5 (#[.int .i64 qr, .int .i64 qn, .slice g5 K1 c5])
                have rS8 := setRow_heap _ gv5 _ (#[.int .i64 qr, .int .i64 qn, .slice g5 K1 c5]) 27 _ rg6
                refine heldTake (i := 22) 12 (v := .int .i64 E1) rfl rfl (by kernel_rfl) (by kernel_rfl) (by kernel_rfl) (fun _ _ _ h => h) (Or.inl ⟨by rfl, fun _ _ => by kernel_rfl⟩) eS8 ?_
                simp only [Act.put, List.setIfInBounds_toArray, List.set_cons_zero, List.set_cons_succ]
                exact wpAnyH_done (by kernel_rfl) (HK2.out gv5 g5 c5 _ ⟨rS8, ownsRow_base (ownsRow_len (ownsV_keep o5 (fun k hk => setRow_other _ _ _ _ (by have := (o5.lt k hk).1; omega))) HK1.out) eG5.size, eS8, hgle5⟩) _
            · obtain ⟨gv9, hgv9⟩ : ∃ g, g = W1'.drew.heap.size := ⟨_, rfl⟩
              have aG9 : Below W1'.drew.heap.size W1'.drew (W1'.drew.alloc (.cells #[.int .i64 0, .int .i64 0, .slice none 0 0] 27)) := (Below.refl _ _).alloc (Nat.le_refl _) _
              have eG9 : Below W1'.heap.size W1' (W1'.drew.alloc (.cells #[.int .i64 0, .int .i64 0, .slice none 0 0] 27)) := ed.trans (aG9.mono ed.size)
              have rG9 : (W1'.drew.alloc (.cells #[.int .i64 0, .int .i64 0, .slice none 0 0] 27)).heap[gv9]? = some (.cells #[.int .i64 0, .int .i64 0, .slice none 0 0] 27) := by rw [hgv9]; exact heap_alloc_new _ _
              have hgle9 : W1'.heap.size ≤ gv9 := by rw [hgv9]; exact ed.size
              refine (opRun (i := 20) (d := 11) (v := .pointer (some ⟨gv9, 0, none⟩)) (w' := W1'.drew.alloc (.cells #[.int .i64 0, .int .i64 0, .slice none 0 0] 27)) rfl (by kernel_rfl) rfl (by rw [hgv9]; kernel_rfl) ⟨eG9, ?_⟩)
              simp only [Act.put, List.setIfInBounds_toArray, List.set_cons_zero, List.set_cons_succ]
              refine heldOne (i := 13) (by kernel_rfl) (opCall (i := 13) (d := 77) (f := 10) (args := #[.int .i64 pv, .int .i64 50]) rfl (by kernel_rfl) rfl (by kernel_rfl) ((ipv.picked 50 _ (by omega) (by omega)).mono ?_))
              rintro e' w' ⟨rfl, rfl⟩
              refine ⟨_, rfl, eG9, ?_⟩
              simp only [Act.put, List.setIfInBounds_toArray, List.set_cons_zero, List.set_cons_succ]
              refine heldTake (i := 14) 78 (v := .agg #[.int .i64 2, .int .i64 0, .int .i64 (pick pv 50), .int .i64 0, .int .i64 0]) rfl rfl (by kernel_rfl) (by kernel_rfl) (by kernel_rfl) (fun _ _ _ h => h) (Or.inl ⟨by rfl, fun _ _ => by kernel_rfl⟩) eG9 ?_
              simp only [Act.put, List.setIfInBounds_toArray, List.set_cons_zero, List.set_cons_succ]
              refine heldTake (i := 15) 79 (v := .agg #[.int .i64 (pick pn 5), .int .i64 R1, .int .i64 R2, .int .i64 2, .int .i64 0, .int .i64 (pick pv 50), .int .i64 0, .int .i64 0]) rfl rfl (by kernel_rfl) (by kernel_rfl) (by kernel_rfl) (fun _ _ _ h => h) (Or.inl ⟨by rfl, fun _ _ => by kernel_rfl⟩) eG9 ?_
              simp only [Act.put, List.setIfInBounds_toArray, List.set_cons_zero, List.set_cons_succ]
              refine heldOne (i := 16) (by kernel_rfl) (opCall (i := 16) (d := 80) (f := 12) (args := #[.agg #[.int .i64 ar, .int .i64 an, .slice ay M cy], .agg #[.int .i64 (pick pn 5), .int .i64 R1, .int .i64 R2, .int .i64 2, .int .i64 0, .int .i64 (pick pv 50), .int .i64 0, .int .i64 0]]) rfl (by kernel_rfl) rfl (by kernel_rfl) ((accept_own ⟨ar, an⟩ (.slice ay M cy) L ⟨pick pn 5, ⟨R1, R2⟩, ⟨2, 0, pick pv 50, 0, 0⟩⟩ _ (sa.below eG9) (ta.below eG9)).mono ?_))
              rintro e' wc10 ⟨y5, rfl, o5, n5, bc10⟩
              have ec10 : Below W1'.heap.size W1' wc10 := eG9.trans (bc10.mono eG9.size)
              rw [HP1.out.1, HP1.out.2.2]
              rw [HP1.out.2.1] at o5
              obtain ⟨g5, c5, h5⟩ := ownsV_shape o5
              rw [HK1.out] at h5
              subst h5
              simp only [acA]
              have rg10 := (bc10.block _ (Array.getElem?_eq_some_iff.1 rG9).1).trans rG9
              have lg11 : gv9 < (W1'.drew.alloc (.cells #[.int .i64 0, .int .i64 0, .slice none 0 0] 27)).heap.size := (Array.getElem?_eq_some_iff.1 rG9).1
              refine ⟨_, rfl, ec10, ?_⟩
              simp only [Act.put, List.setIfInBounds_toArray, List.set_cons_zero, List.set_cons_succ]
              refine heldTake (i := 17) 63 (v := .tuple #[.agg #[.int .i64 qr, .int .i64 qn, .slice g5 K1 c5], .int .i64 E1]) rfl rfl (by kernel_rfl) (by kernel_rfl) (by kernel_rfl) (fun _ _ _ h => h) (Or.inl ⟨by rfl, fun _ _ => by kernel_rfl⟩) ec10 ?_
              simp only [Act.put, List.setIfInBounds_toArray, List.set_cons_zero, List.set_cons_succ]
              refine heldTake (i := 18) 81 (v := .agg #[.int .i64 qr, .int .i64 qn, .slice g5 K1 c5]) rfl rfl (by kernel_rfl) (by kernel_rfl) (by kernel_rfl) (fun _ _ _ h => h) (Or.inl ⟨by rfl, fun _ _ => by kernel_rfl⟩) ec10 ?_
              simp only [Act.put, List.setIfInBounds_toArray, List.set_cons_zero, List.set_cons_succ]
              refine heldTake (i := 19) 82 (v := .int .i64 E1) rfl rfl (by kernel_rfl) (by kernel_rfl) (by kernel_rfl) (fun _ _ _ h => h) (Or.inl ⟨by rfl, fun _ _ => by kernel_rfl⟩) ec10 ?_
              simp only [Act.put, List.setIfInBounds_toArray, List.set_cons_zero, List.set_cons_succ]
              refine heldOne (i := 21) (by kernel_rfl) (opStore (i := 21) rfl (by kernel_rfl) rfl 27 (.tmp 11) (.tmp 81) rfl gv9 #[.int .i64 qr, .int .i64 qn, .slice g5 K1 c5] (by kernel_rfl) (by kernel_rfl) 27 _ rg10 ac3k rfl (by simp [Value.oneCell']) ⟨oBelow_rowP ec10 hgle9 _, ?_⟩)
              have eS12 := oBelow_rowP ec10 hgle9 (#[.int .i64 qr, .int .i64 qn, .slice g5 K1 c5])
              have rS12 := setRow_heap _ gv9 _ (#[.int .i64 qr, .int .i64 qn, .slice g5 K1 c5]) 27 _ rg10
              refine heldTake (i := 22) 12 (v := .int .i64 E1) rfl rfl (by kernel_rfl) (by kernel_rfl) (by kernel_rfl) (fun _ _ _ h => h) (Or.inl ⟨by rfl, fun _ _ => by kernel_rfl⟩) eS12 ?_
              simp only [Act.put, List.setIfInBounds_toArray, List.set_cons_zero, List.set_cons_succ]
              exact wpAnyH_done (by kernel_rfl) (HK2.out gv9 g5 c5 _ ⟨rS12, ownsRow_base (ownsRow_len (ownsV_keep o5 (fun k hk => setRow_other _ _ _ _ (by have := (o5.lt k hk).1; omega))) HK1.out) eG9.size, eS12, hgle9⟩) _
          · obtain ⟨gv13, hgv13⟩ : ∃ g, g = W1'.drew.heap.size := ⟨_, rfl⟩
            have aG13 : Below W1'.drew.heap.size W1'.drew (W1'.drew.alloc (.cells #[.int .i64 0, .int .i64 0, .slice none 0 0] 27)) := (Below.refl _ _).alloc (Nat.le_refl _) _
            have eG13 : Below W1'.heap.size W1' (W1'.drew.alloc (.cells #[.int .i64 0, .int .i64 0, .slice none 0 0] 27)) := ed.trans (aG13.mono ed.size)
            have rG13 : (W1'.drew.alloc (.cells #[.int .i64 0, .int .i64 0, .slice none 0 0] 27)).heap[gv13]? = some (.cells #[.int .i64 0, .int .i64 0, .slice none 0 0] 27) := by rw [hgv13]; exact heap_alloc_new _ _
            have hgle13 : W1'.heap.size ≤ gv13 := by rw [hgv13]; exact ed.size
            refine (opRun (i := 20) (d := 11) (v := .pointer (some ⟨gv13, 0, none⟩)) (w' := W1'.drew.alloc (.cells #[.int .i64 0, .int .i64 0, .slice none 0 0] 27)) rfl (by kernel_rfl) rfl (by rw [hgv13]; kernel_rfl) ⟨eG13, ?_⟩)
            simp only [Act.put, List.setIfInBounds_toArray, List.set_cons_zero, List.set_cons_succ]
            refine heldOne (i := 6) (by kernel_rfl) (opCall (i := 6) (d := 70) (f := 10) (args := #[.int .i64 pn, .int .i64 5]) rfl (by kernel_rfl) rfl (by kernel_rfl) ((ipn.picked 5 _ (by omega) (by omega)).mono ?_))
            rintro e' w' ⟨rfl, rfl⟩
            refine ⟨_, rfl, eG13, ?_⟩
            simp only [Act.put, List.setIfInBounds_toArray, List.set_cons_zero, List.set_cons_succ]
            refine heldOne (i := 13) (by kernel_rfl) (opCall (i := 13) (d := 77) (f := 10) (args := #[.int .i64 pv, .int .i64 50]) rfl (by kernel_rfl) rfl (by kernel_rfl) ((ipv.picked 50 _ (by omega) (by omega)).mono ?_))
            rintro e' w' ⟨rfl, rfl⟩
            refine ⟨_, rfl, eG13, ?_⟩
            simp only [Act.put, List.setIfInBounds_toArray, List.set_cons_zero, List.set_cons_succ]
            refine heldTake (i := 14) 78 (v := .agg #[.int .i64 2, .int .i64 0, .int .i64 (pick pv 50), .int .i64 0, .int .i64 0]) rfl rfl (by kernel_rfl) (by kernel_rfl) (by kernel_rfl) (fun _ _ _ h => h) (Or.inl ⟨by rfl, fun _ _ => by kernel_rfl⟩) eG13 ?_
            simp only [Act.put, List.setIfInBounds_toArray, List.set_cons_zero, List.set_cons_succ]
            refine heldTake (i := 15) 79 (v := .agg #[.int .i64 (pick pn 5), .int .i64 R1, .int .i64 R2, .int .i64 2, .int .i64 0, .int .i64 (pick pv 50), .int .i64 0, .int .i64 0]) rfl rfl (by kernel_rfl) (by kernel_rfl) (by kernel_rfl) (fun _ _ _ h => h) (Or.inl ⟨by rfl, fun _ _ => by kernel_rfl⟩) eG13 ?_
            simp only [Act.put, List.setIfInBounds_toArray, List.set_cons_zero, List.set_cons_succ]
            refine heldOne (i := 16) (by kernel_rfl) (opCall (i := 16) (d := 80) (f := 12) (args := #[.agg #[.int .i64 ar, .int .i64 an, .slice ay M cy], .agg #[.int .i64 (pick pn 5), .int .i64 R1, .int .i64 R2, .int .i64 2, .int .i64 0, .int .i64 (pick pv 50), .int .i64 0, .int .i64 0]]) rfl (by kernel_rfl) rfl (by kernel_rfl) ((accept_own ⟨ar, an⟩ (.slice ay M cy) L ⟨pick pn 5, ⟨R1, R2⟩, ⟨2, 0, pick pv 50, 0, 0⟩⟩ _ (sa.below eG13) (ta.below eG13)).mono ?_))
            rintro e' wc14 ⟨y5, rfl, o5, n5, bc14⟩
            have ec14 : Below W1'.heap.size W1' wc14 := eG13.trans (bc14.mono eG13.size)
            rw [HP1.out.1, HP1.out.2.2]
            rw [HP1.out.2.1] at o5
            obtain ⟨g5, c5, h5⟩ := ownsV_shape o5
            rw [HK1.out] at h5
            subst h5
            simp only [acA]
            have rg14 := (bc14.block _ (Array.getElem?_eq_some_iff.1 rG13).1).trans rG13
            have lg15 : gv13 < (W1'.drew.alloc (.cells #[.int .i64 0, .int .i64 0, .slice none 0 0] 27)).heap.size := (Array.getElem?_eq_some_iff.1 rG13).1
            refine ⟨_, rfl, ec14, ?_⟩
            simp only [Act.put, List.setIfInBounds_toArray, List.set_cons_zero, List.set_cons_succ]
            refine heldTake (i := 17) 63 (v := .tuple #[.agg #[.int .i64 qr, .int .i64 qn, .slice g5 K1 c5], .int .i64 E1]) rfl rfl (by kernel_rfl) (by kernel_rfl) (by kernel_rfl) (fun _ _ _ h => h) (Or.inl ⟨by rfl, fun _ _ => by kernel_rfl⟩) ec14 ?_
            simp only [Act.put, List.setIfInBounds_toArray, List.set_cons_zero, List.set_cons_succ]
            refine heldTake (i := 18) 81 (v := .agg #[.int .i64 qr, .int .i64 qn, .slice g5 K1 c5]) rfl rfl (by kernel_rfl) (by kernel_rfl) (by kernel_rfl) (fun _ _ _ h => h) (Or.inl ⟨by rfl, fun _ _ => by kernel_rfl⟩) ec14 ?_
            simp only [Act.put, List.setIfInBounds_toArray, List.set_cons_zero, List.set_cons_succ]
            refine heldTake (i := 19) 82 (v := .int .i64 E1) rfl rfl (by kernel_rfl) (by kernel_rfl) (by kernel_rfl) (fun _ _ _ h => h) (Or.inl ⟨by rfl, fun _ _ => by kernel_rfl⟩) ec14 ?_
            simp only [Act.put, List.setIfInBounds_toArray, List.set_cons_zero, List.set_cons_succ]
            refine heldOne (i := 21) (by kernel_rfl) (opStore (i := 21) rfl (by kernel_rfl) rfl 27 (.tmp 11) (.tmp 81) rfl gv13 #[.int .i64 qr, .int .i64 qn, .slice g5 K1 c5] (by kernel_rfl) (by kernel_rfl) 27 _ rg14 ac3k rfl (by simp [Value.oneCell']) ⟨oBelow_rowP ec14 hgle13 _, ?_⟩)
            have eS16 := oBelow_rowP ec14 hgle13 (#[.int .i64 qr, .int .i64 qn, .slice g5 K1 c5])
            have rS16 := setRow_heap _ gv13 _ (#[.int .i64 qr, .int .i64 qn, .slice g5 K1 c5]) 27 _ rg14
            refine heldTake (i := 22) 12 (v := .int .i64 E1) rfl rfl (by kernel_rfl) (by kernel_rfl) (by kernel_rfl) (fun _ _ _ h => h) (Or.inl ⟨by rfl, fun _ _ => by kernel_rfl⟩) eS16 ?_
            simp only [Act.put, List.setIfInBounds_toArray, List.set_cons_zero, List.set_cons_succ]
            exact wpAnyH_done (by kernel_rfl) (HK2.out gv13 g5 c5 _ ⟨rS16, ownsRow_base (ownsRow_len (ownsV_keep o5 (fun k hk => setRow_other _ _ _ _ (by have := (o5.lt k hk).1; omega))) HK1.out) eG13.size, eS16, hgle13⟩) _
        intro g11 g5 c5 W4 hW4
        obtain ⟨q11, o4, b4, hg11⟩ := hW4
        have HO4 : Hid (W4.ownsRow W1'.heap.size 39 8 (.slice g5 K1 c5) K1 (vtL L1)) := o4
        have e4 : Below G W0 W4 := e1w.trans (b4.mono (by omega))
        have qa4 := (b4.block G ltG1).trans qa1
        have HO3 : Hid (Ov W4 (.slice ay M cy) L) := HO1.out.below b4
        clear o4 b4 q5 q50
        rcases vot_split HMA.out HV.out with ⟨f1, f2, f3, f4⟩ | ⟨f1, f2, f3, f4⟩
        · obtain rfl : E1 = 7 := HP1.out.2.2.symm.trans f1
          clear f1 f2 f3 f4 HP1 HV
          go_wp2
          go_roundw
          case rel => exact ⟨j + 1, ⟨⟨ar, an⟩, L⟩, _, by omega, by omega, by go_num, by simp, qa4, HO3.out, HMA.out, hpa, e4⟩
          case measure => simp [intOf]; omega
        · obtain rfl : E1 = 0 := HP1.out.2.2.symm.trans f1
          obtain rfl : L1 = insV L ⟨pick pn 5, ⟨R1, R2⟩, ⟨2, 0, pick pv 50, 0, 0⟩⟩ := HP1.out.2.1.symm.trans f3
          have hqq : (⟨qr, qn⟩ : Bal) = ⟨R1, R2⟩ := HP1.out.1.symm.trans f2
          have hq1 : qr = R1 := congrArg Bal.r hqq
          have hq2 : qn = R2 := congrArg Bal.n hqq
          have hacc : Hid (AccMay ⟨⟨R1, R2⟩, insV L ⟨pick pn 5, ⟨R1, R2⟩, ⟨2, 0, pick pv 50, 0, 0⟩⟩⟩) := HMA.out.vote HV.out f4
          clear f1 f2 f3 f4 HP1 HV hqq HO3
          generalize insV L ⟨pick pn 5, ⟨R1, R2⟩, ⟨2, 0, pick pv 50, 0, 0⟩⟩ = L1 at HO4 hacc HK1
          subst hq1
          subst hq2
          have on : (#[.int .i64 qr, .int .i64 qn, .slice g5 K1 c5] : Array Value).all (·.oneCell') = true := by simp [Value.oneCell']
          go_wp2_with ((with_reducible (refine pxLook ?_)); first | (refine wpList_load_row rfl 27 (.tmp 11) rfl g11 rfl 27 _ (0, 0) _ q11 Tryd.underlying27 rfl ac3k ?_) | (refine wpList_store_row rfl 27 (.tmp 4) (.tmp 94) rfl G (#[.int .i64 qr, .int .i64 qn, .slice g5 K1 c5]) rfl rfl 27 _ qa4 ac3k rfl on ?_))
          have qa5 := setRow_heap W4 G _ (#[.int .i64 qr, .int .i64 qn, .slice g5 K1 c5]) 27 _ qa4
          have e5 := oBelow_rowP e4 (Nat.le_refl _) (#[.int .i64 qr, .int .i64 qn, .slice g5 K1 c5])
          have HO5 : Hid (Ov (W4.setRow G #[.int .i64 qr, .int .i64 qn, .slice g5 K1 c5]) (.slice g5 K1 c5) L1) := by
            unfold Hid Ov
            rw [HK1.out]
            exact ownsRow_base (ownsV_keep HO4.out (fun k hk => setRow_other _ _ _ _ (by have := (HO4.out.lt k hk).1; omega))) (Nat.zero_le _)
          go_roundw
          case rel => exact ⟨j + 1, ⟨⟨qr, qn⟩, L1⟩, _, by omega, by omega, by go_num, by simp, qa5, HO5.out, hacc.out, hbr, e5⟩
          case measure => simp [intOf]; omega
    · have hone : (#[.int .i64 ar, .int .i64 an, .slice ay M cy] : Array Value).all (·.oneCell') = true := by simp [Value.oneCell']
      have hgo : ¬ ((j : Int) < (N : Int)) ∨ ((j : Int) < (N : Int) ∧ ¬ ((j : Int) < 30)) := by omega
      have key : Hid (∃ (a : Acc) (y : Value), (.returned (.tuple #[.agg #[.int .i64 ar, .int .i64 an, .slice ay M cy], .bool true]) : Ending) = .returned (.tuple #[.agg (acA a.p y), .bool true]) ∧ Ov (wr.setRow w.heap.size #[.int .i64 ar, .int .i64 an, .slice ay M cy]) y a.vs ∧ AccMay a ∧ a.p.r ≤ 9 ∧ Below w.heap.size w (wr.setRow w.heap.size #[.int .i64 ar, .int .i64 an, .slice ay M cy])) := by
        refine ⟨⟨⟨ar, an⟩, L⟩, .slice ay M cy, rfl, ?_, HMA.out, hpa, oBelow_rowP hwr (Nat.le_refl _) _⟩
        refine ownsV_keep HOA.out (fun k hk => setRow_other _ _ _ _ (fun g => ?_))
        have h1 := HOA.out.2
        rcases h1 with ⟨h1, _⟩ | ⟨q, cap, cur, h1, _, h2, _⟩
        · rw [h1] at hk; cases hk
        · rw [h1] at hk
          have hk' : q = k := by simpa [Value.ownBlock] using hk
          rw [hk', g, rr0] at h2
          simp at h2
      have q9 := setRow_heap wr w.heap.size _ (#[.int .i64 ar, .int .i64 an, .slice ay M cy]) 27 _ rr0
      rcases hgo with hgo | ⟨hgo, hgo2⟩
      · clear hjj
        go_wp2_with ((with_reducible (refine pxLook ?_)); first | (refine wpList_load_row rfl 27 (.tmp 4) rfl G rfl 27 _ (0, 0) _ qa Tryd.underlying27 rfl ac3k ?_) | (refine wpList_store_row rfl 27 (.tmp 2) (.tmp 95) rfl w.heap.size (#[.int .i64 ar, .int .i64 an, .slice ay M cy]) rfl rfl 27 _ rr0 ac3k rfl hone ?_))
        refine bodyPost_ret (pRow2 rfl _ _ w.heap.size 27 _ (0, 0) _ rfl q9 Tryd.underlying27 rfl ac3k) rfl ?_
        exact key.out
      · clear hjj
        go_wp2_with ((with_reducible (refine pxLook ?_)); first | (refine wpList_load_row rfl 27 (.tmp 4) rfl G rfl 27 _ (0, 0) _ qa Tryd.underlying27 rfl ac3k ?_) | (refine wpList_store_row rfl 27 (.tmp 2) (.tmp 95) rfl w.heap.size (#[.int .i64 ar, .int .i64 an, .slice ay M cy]) rfl rfl 27 _ rr0 ac3k rfl hone ?_))
        refine bodyPost_ret (pRow2 rfl _ _ w.heap.size 27 _ (0, 0) _ rfl q9 Tryd.underlying27 rfl ac3k) rfl ?_
        exact key.out
end Go.Proofs.YticjofjghpdmpabDoor
