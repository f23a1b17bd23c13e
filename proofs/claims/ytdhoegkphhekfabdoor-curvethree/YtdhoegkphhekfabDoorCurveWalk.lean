/-
  The walks of the program's Shared and Point.
-/
import Derived.Test.YtdhoegkphhekfabDoorCuClimbWalk
import Derived.Test.YtdhoegkphhekfabDoorCuWriteWalk
import Derived.Test.YtdhoegkphhekfabDoorShapes
import Derived.ChangeKeysEq
import Derived.Laws.StructEq
namespace Go.Proofs.YtdhoegkphhekfabDoor
open Go.RowKit

theorem wN_zero {r : List Int} (hw : Wd r) (hl : r.length = 16) (h : wN r = 0) : r = zL := by
  have key : ∀ k, k ≤ 16 → wP r k = 0 → ∀ j, j < k → r.getD j 0 = 0 := by
    intro k
    induction k with
    | zero => intro _ _ j hj; omega
    | succ k ih =>
      intro hk h0 j hj
      rw [wP] at h0
      have h1 := (wP_bound hw k).1
      have h2 := hw.get k
      have h3 : 0 ≤ r.getD k 0 * 65536 ^ k := Int.mul_nonneg h2.1 (Int.le_of_lt (wpow k))
      have h4 : r.getD k 0 * 65536 ^ k = 0 := by omega
      have h5 : r.getD k 0 = 0 := by
        rcases Int.mul_eq_zero.1 h4 with h | h
        · exact h
        · have := wpow k
          omega
      by_cases e : j = k
      · rw [e]; exact h5
      · exact ih (by omega) (by omega) j (by omega)
  have hz := key 16 (by omega) (by rw [wN_16 hl]; exact h)
  apply List.ext_getElem (by rw [hl]; rfl)
  intro j h1 h2
  have := hz j (by omega)
  rw [getD_at h1] at this
  rw [this]
  exact ((by decide : ∀ i : Fin 16, zL[i.val]'i.isLt = 0) ⟨j, h2⟩).symm
theorem zL_zero : wN zL = 0 := by decide +kernel
set_option maxRecDepth 100000 in
theorem cu_part (S : List Int) (hS : S.length = 16) (j : Nat) (hj : j < 16) (w : World) : (part 2 (lmA S) (j * 1)).run Tryd.prog w = .ok (.int .i64 (S.getD j 0)) w := by
  obtain ⟨a0, a1, a2, a3, a4, a5, a6, a7, a8, a9, a10, a11, a12, a13, a14, a15, rfl⟩ := list16 S hS
  rcases to16 hj with rfl | rfl | rfl | rfl | rfl | rfl | rfl | rfl | rfl | rfl | rfl | rfl | rfl | rfl | rfl | rfl
  all_goals kernel_rfl
theorem cu_items (r z : List Int) (hr : r.length = 16) (hz : z.length = 16) (d : Nat) (w : World) : ∀ l : List Nat, (∀ i ∈ l, i < 16) → (Op.eqItems (d + 1) 2 1 (lmA r) (lmA z) l).run Tryd.prog w = .ok (decide (∀ i ∈ l, r.getD i 0 = z.getD i 0)) w
  | [], _ => by simp [Op.eqItems]
  | i :: l, h => by
    have hi := h i (List.mem_cons_self ..)
    have ih := cu_items r z hr hz d w l (fun j hj => h j (List.mem_cons_of_mem _ hj))
    simp only [Op.eqItems, Sem.run_bind, cu_part r hr i hi w, cu_part z hz i hi w, Result.andThen_ok, run_equalIn_int w d 2 .i64 .i64 _ _ Tryd.underlying2]
    by_cases e : r.getD i 0 = z.getD i 0
    · rw [e]
      simp only [beq_self_eq_true, Bool.not_true, Bool.false_eq_true, if_false, ih]
      congr 1
      simp only [List.mem_cons, forall_eq_or_imp, decide_eq_decide]
      exact ⟨fun q => ⟨e, q⟩, fun q => q.2⟩
    · have hb : (r.getD i 0 == z.getD i 0) = false := beq_false_of_ne e
      rw [hb]
      simp only [Bool.not_false, if_true, Sem.run_pure]
      congr 1
      symm
      simp only [decide_eq_false_iff_not]
      exact fun q => e (q i (List.mem_cons_self ..))
/-- are two numbers in limbs the same -/
theorem cu_same (r : List Int) (hl : r.length = 16) (w : World) : (Op.equalIn 10000 34 (.agg (lmA r)) (.agg #[.int .i64 0, .int .i64 0, .int .i64 0, .int .i64 0, .int .i64 0, .int .i64 0, .int .i64 0, .int .i64 0, .int .i64 0, .int .i64 0, .int .i64 0, .int .i64 0, .int .i64 0, .int .i64 0, .int .i64 0, .int .i64 0])).run Tryd.prog w = .ok (decide (r = zL)) w := by
  have h1 := run_equalIn_array (P := Tryd.prog) w 9999 (t := 34) (e := 2) (n := 16) (lmA r) (lmA zL) Tryd.underlying34 (show Tryd.prog.info? 2 = some _ from rfl)
  rw [show Tryd.prog.cellsOf 2 = 1 by kernel_rfl] at h1
  have h2 := h1.trans (cu_items r zL hl rfl 9998 w (List.range 16) (fun i hi => by simpa using hi))
  refine h2.trans ?_
  congr 1
  rw [decide_eq_decide]
  constructor
  · intro h
    apply List.ext_getElem (by rw [hl]; rfl)
    intro j g1 g2
    have := h j (by rw [List.mem_range]; omega)
    rwa [getD_at g1, getD_at g2] at this
  · intro h i _
    rw [h]

set_option maxHeartbeats 4000000 in
set_option maxRecDepth 100000 in
theorem shared_ok (vs vp : Value) (s b : List Int) (w : World) (hs : Sl w vs s) (hp : Sl w vp b) (ht : MTab w) (ls : s.length = 32) (lb : b.length = 32) :
    Calls Tryd.prog 8 #[vs, vp] w fun e w' => (shF s b ≠ 0 ∧ ∃ v', e = .returned (.tuple #[v', .int .i64 0]) ∧ Sl w' v' (leB 32 ((shF s b).val : Int)) ∧ Below w.heap.size w w') ∨ (shF s b = 0 ∧ e = .returned (.tuple #[.slice none 0 0, .int .i64 12]) ∧ Below w.heap.size w w') := by
  have hu : Nm (uF b) (pntL b) := ⟨pntL_wd hp.byte, pntL_length b, pntL_val hp.byte lb⟩
  have hby := hs.byte
  obtain ⟨R, hR⟩ : ∃ R, shF s b = R := ⟨_, rfl⟩
  have HR : Hid ((Cv.lad (uF b) (kN s) 255 255).x2 * Cv.finv (Cv.lad (uF b) (kN s) 255 255).z2 = R) := hR
  rw [hR]
  clear hR
  have hgd : Tryd.prog.eqGuardType Tryd.prog.depth 34 = false := by kernel_rfl
  have HGD : Hid _ := hgd
  have hsS := hs
  have hpP := hp
  obtain ⟨as0, cs, rfl⟩ := hs.shape
  obtain ⟨ab, cb, rfl⟩ := hp.shape
  rw [ls] at hsS ⊢
  rw [lb] at hpP ⊢
  clear hs hp hgd
  go_enter Tryd.func8, Tryd.ntmps8
  go_wp2_with fail
  refine (cu_secret _ s w hsS ls).mono ?_
  rintro e w1 ⟨rfl, b1⟩
  go_wp2_with fail
  refine (cu_point _ b w1 (hpP.below b1) lb).mono ?_
  rintro e w2 ⟨rfl, b2⟩
  have d2 : Below w.heap.size w w2 := b1.trans (b2.mono b1.size)
  go_wp2_with fail
  refine (cu_climbed w2 hby hu (ht.below d2)).mono ?_
  rintro e w3 ⟨p, q, rfl, ⟨hp2, hq2⟩, b3⟩
  have d3 : Below w.heap.size w w3 := d2.trans (b3.mono d2.size)
  go_wp2_with fail
  refine (cu_number w3 hp2 hq2 (ht.below d3)).mono ?_
  rintro e w4 ⟨n, rfl, hn, b4⟩
  rw [HR.out] at hn
  have d4 : Below w.heap.size w w4 := d3.trans (b4.mono d3.size)
  go_wp2_with fail
  refine (cu_least n w4 hn.wd hn.len (ht.below d4)).mono ?_
  rintro e w5 ⟨r, rfl, ⟨rw1, rl⟩, rv, b5⟩
  have d5 : Below w.heap.size w w5 := d4.trans (b5.mono d4.size)
  have hv : wN r = (R.val : Int) := by rw [rv, ← toF_val, hn.val]
  have hsz := cuInfo rl
  obtain ⟨W, hW⟩ : ∃ W, (w5.alloc (.cells (lmA zL) 34 (0, 0))).setRow w5.heap.size (lmA r) = W := ⟨_, rfl⟩
  obtain ⟨r6, b6, _⟩ := cu_new hW
  have d6 : Below w.heap.size w W := d5.trans (b6.mono d5.size)
  have heq := cu_same r rl W
  have HW : Hid _ := hW
  have HV : Hid _ := hv
  clear hW b1 b2 b3 b4 b5 b6 d2 d3 d4 d5 hp2 hq2 hn rv hu hv hby hsS hpP
  have hgd := HGD.out
  by_cases hz : r = zL
  · have hR0 : R = 0 := by
      have h := HV.out
      rw [hz, zL_zero] at h
      exact f_ext (by rw [← h]; rfl)
    rw [decide_eq_true hz] at heq
    have HZ : Hid _ := hR0
    clear hR0 hz
    go_wp2_with ((with_reducible (refine cu_look ?_)); first
      | (refine wpList_store_row rfl 34 _ _ rfl w5.heap.size _ rfl rfl 34 (lmA zL) (heap_alloc_new _ _) hsz (by rw [lmA_size, lmA_size, rl]; rfl) (lmA_one _) ?_; refine (congrArg (wpList _ _ _ _ _) HW.out).mpr ?_)
      | (refine wpList_load_row rfl 34 (.tmp 6) rfl w5.heap.size rfl 34 _ (0, 0) _ r6 Tryd.underlying34 rfl hsz ?_))
    go_ret2
    exact .inr ⟨HZ.out, rfl, d6⟩
  · have hR0 : R ≠ 0 := fun h => hz (wN_zero rw1 rl (by rw [HV.out, h]; rfl))
    rw [decide_eq_false hz] at heq
    have HZ : Hid _ := hR0
    clear hR0 hz
    go_wp2_with ((with_reducible (refine cu_look ?_)); first
      | (refine wpList_store_row rfl 34 _ _ rfl w5.heap.size _ rfl rfl 34 (lmA zL) (heap_alloc_new _ _) hsz (by rw [lmA_size, lmA_size, rl]; rfl) (lmA_one _) ?_; refine (congrArg (wpList _ _ _ _ _) HW.out).mpr ?_)
      | (refine wpList_load_row rfl 34 (.tmp 6) rfl w5.heap.size rfl 34 _ (0, 0) _ r6 Tryd.underlying34 rfl hsz ?_))
    refine (cu_written r W rw1 rl).mono ?_
    rintro e w7 ⟨v7, rfl, s7, b7⟩
    rw [HV.out] at s7
    have d7 : Below w.heap.size w w7 := d6.trans (b7.mono d6.size)
    have HS7 : Hid _ := s7
    clear s7 b7 heq
    go_wp2
    go_ret2
    exact .inl ⟨HZ.out, v7, rfl, HS7.out, d7⟩

theorem shared_no (vs vp : Value) (s b : List Int) (w : World) (hs : Sl w vs s) (hp : Sl w vp b) (hno : ¬ (s.length = 32 ∧ b.length = 32)) :
    Calls Tryd.prog 8 #[vs, vp] w fun e w' => e = .returned (.tuple #[.slice none 0 0, .int .i64 1]) ∧ w' = w := by
  have h1 := hs.len
  have h2 := hp.len
  obtain ⟨as0, cs, rfl⟩ := hs.shape
  obtain ⟨ab, cb, rfl⟩ := hp.shape
  generalize s.length = n1 at h1 hno ⊢
  generalize b.length = n2 at h2 hno ⊢
  clear hs hp
  by_cases c1 : (n1 : Int) = 32
  · have c2 : ¬ (n2 : Int) = 32 := by omega
    clear hno
    go_enter Tryd.func8, Tryd.ntmps8
    go_wp2
    go_ret2
    exact ⟨rfl, rfl⟩
  · clear hno
    go_enter Tryd.func8, Tryd.ntmps8
    go_wp2
    go_ret2
    exact ⟨rfl, rfl⟩

theorem shared_any (vs vp : Value) (s b : List Int) (w : World) (hs : Sl w vs s) (hp : Sl w vp b) (ht : MTab w) :
    Calls Tryd.prog 8 #[vs, vp] w fun e w' => ∃ v', e = .returned (.tuple #[v', .int .i64 (shE s b)]) ∧ Sl w' v' (shL s b) ∧ Below w.heap.size w w' := by
  unfold shL
  by_cases h : s.length = 32 ∧ b.length = 32
  · refine (shared_ok vs vp s b w hs hp ht h.1 h.2).mono ?_
    rintro e w1 (⟨hz, v', rfl, sv, b1⟩ | ⟨hz, rfl, b1⟩)
    · have hE : shE s b = 0 := by unfold shE; rw [if_pos h, if_neg hz]
      rw [hE, if_pos rfl]
      exact ⟨v', rfl, sv, b1⟩
    · have hE : shE s b = 12 := by unfold shE; rw [if_pos h, if_pos hz]
      rw [hE, if_neg (by omega)]
      exact ⟨_, rfl, Sl.nil _ _, b1⟩
  · have hE : shE s b = 1 := by unfold shE; rw [if_neg h]
    rw [hE, if_neg (by omega)]
    refine (shared_no vs vp s b w hs hp h).mono ?_
    rintro e w1 ⟨rfl, rfl⟩
    exact ⟨_, rfl, Sl.nil _ _, Below.refl _ _⟩

theorem nine_bytes : leB 32 (wN (oneLimb 9)) = nineL 31 := by decide +kernel
set_option maxHeartbeats 1000000 in
set_option maxRecDepth 100000 in
theorem point_any (vs : Value) (s : List Int) (w : World) (hs : Sl w vs s) (ht : MTab w) :
    Calls Tryd.prog 7 #[vs] w fun e w' => ∃ v', e = .returned (.tuple #[v', .int .i64 (shE s (nineL 31))]) ∧ Sl w' v' (shL s (nineL 31)) ∧ Below w.heap.size w w' := by
  obtain ⟨E, hE⟩ : ∃ E, shE s (nineL 31) = E := ⟨_, rfl⟩
  obtain ⟨L, hL⟩ : ∃ L, shL s (nineL 31) = L := ⟨_, rfl⟩
  have HE : Hid _ := hE
  have HL : Hid _ := hL
  rw [hE, hL]
  clear hE hL
  go_enter Tryd.func7, Tryd.ntmps7
  go_wp2_with fail
  refine (cu_written (oneLimb 9) w (oneLimb_wd (by omega)) rfl).mono ?_
  rintro e w1 ⟨v1, rfl, s1, b1⟩
  rw [nine_bytes] at s1
  go_wp2_with fail
  refine (shared_any vs v1 s (nineL 31) w1 (hs.below b1) s1 (ht.below b1)).mono ?_
  rintro e w2 ⟨v2, rfl, s2, b2⟩
  rw [HL.out] at s2
  rw [HE.out]
  have d2 : Below w.heap.size w w2 := b1.trans (b2.mono b1.size)
  have HS : Hid _ := s2
  clear s1 s2 b1 b2
  go_wp2
  go_ret2
  exact ⟨v2, rfl, HS.out, d2⟩
end Go.Proofs.YtdhoegkphhekfabDoor
