/-
  The walk of Allows.
-/
import Derived.Test.YtjlboglcffdnoabDoorOrdMay
namespace Go.Proofs.YtjlboglcffdnoabDoor
open Go.RowKit
set_option linter.unusedVariables false

/-- the right that a kind needs -/
def needR (k : Nat) : Int := if k = 1 then 2 else if k = 2 then 1 else if k = 3 then 4 else 0
theorem NTab.right {w : World} (h : NTab w) (k : Nat) (h1 : k ≤ 3) : w.cell? ⟨0, k * 3, none⟩ = some (.int .i64 (needR k)) := by
  rcases (by omega : k = 0 ∨ k = 1 ∨ k = 2 ∨ k = 3) with rfl | rfl | rfl | rfl
  · exact h.cell 0 (by omega)
  · exact h.cell 3 (by omega)
  · exact h.cell 6 (by omega)
  · exact h.cell 9 (by omega)
/-- a set of rights has what is needed, by their bits -/
theorem hasR_bits (k : Nat) (r : Int) (hk : k ≤ 3) (h0 : 0 ≤ r) (h1 : r ≤ 7) : (bits .and .i64 r (needR k) = 0) ↔ ¬ HasR (k : Int) r := by
  have all : ∀ (i : Fin 4) (j : Fin 8), (bits .and .i64 ((j.val : Nat) : Int) (needR i.val) = 0) ↔ ¬ HasR ((i.val : Nat) : Int) ((j.val : Nat) : Int) := by decide +kernel
  obtain ⟨m, rfl⟩ := Int.eq_ofNat_of_zero_le h0
  exact all ⟨k, by omega⟩ ⟨m, by omega⟩

set_option maxHeartbeats 1000000 in
set_option maxRecDepth 100000 in
theorem allows_any (tc tr tu k c s n v now : Int) (w : World) (ht : NTab w) :
    Calls Tryd.prog 19 #[.agg (tkA tc tr tu), .agg (cmA k c s n v), .int .i64 now] w fun e w' => e = .returned (.int .i64 (allE tc tr tu k c s n v now)) ∧ Below w.heap.size w w' := by
  have b1 : Below w.heap.size w (w.alloc (.cells (tkA tc tr tu) 39)) := (Below.refl _ _).alloc (Nat.le_refl _) _
  have bt := Bt.made w tc tr tu
  have z1 : (w.alloc (.cells (tkA tc tr tu) 39)).heap.size = w.heap.size + 1 := by simp
  have b2 : Below (w.alloc (.cells (tkA tc tr tu) 39)).heap.size (w.alloc (.cells (tkA tc tr tu) 39)) ((w.alloc (.cells (tkA tc tr tu) 39)).alloc (.cells (cmA k c s n v) 24)) := (Below.refl _ _).alloc (Nat.le_refl _) _
  have bc := Bc.made (w.alloc (.cells (tkA tc tr tu) 39)) k c s n v
  replace bt := bt.below b2
  have bb := b1.trans (b2.mono b1.size)
  have hT := ht.below bb
  rw [z1] at bc
  clear b1 b2 ht z1
  have hic := comInfo k c s n v
  have hit := tokInfo tc tr tu
  generalize hW : (w.alloc (.cells (tkA tc tr tu) 39)).alloc (.cells (cmA k c s n v) 24) = W at bb bt bc hT
  go_enter Tryd.func19, Tryd.ntmps19
  go_wp2_with (refine wpList_load_row rfl 39 _ rfl w.heap.size rfl 39 _ (0, 0) _ bt.row Tryd.underlying39 rfl hit ?_)
  clear hW
  refine (mayBe_tok tc tr tu _).mono ?_
  rintro e w1 ⟨rfl, b1⟩
  have d1 : Below w.heap.size w w1 := bb.trans (b1.mono bb.size)
  replace bt := bt.below b1
  replace bc := bc.below b1
  replace hT := hT.below b1
  clear b1 bb
  by_cases h1 : TokB tc tr tu
  · rw [decide_eq_true h1]
    go_wp2_with (refine wpList_load_row rfl 24 _ rfl (w.heap.size + 1) rfl 24 _ (0, 0) _ bc.row Tryd.underlying24 rfl hic ?_)
    refine (oCheck_any k c s n v _ hT).mono ?_
    rintro e w2 ⟨rfl, b2⟩
    have d2 : Below w.heap.size w w2 := d1.trans (b2.mono d1.size)
    replace bt := bt.below b2
    replace bc := bc.below b2
    replace hT := hT.below b2
    clear b2 d1
    by_cases h2 : comE k c s n v = 0
    · have hz := comE_zero h2
      obtain ⟨m, rfl⟩ := Int.eq_ofNat_of_zero_le hz.1.1
      have k0 : (0 : Int) ≤ (m : Int) := by omega
      have k1 : (m : Int) < 4 := by omega
      have k2 : m < 4 := by omega
      have hR := hT.right m (by omega)
      have hB := hasR_bits m tr (by omega) h1.2.1.1 h1.2.1.2
      obtain ⟨c0, c1, c2, c3, c4⟩ := cmA_cells bc.row
      obtain ⟨t0, t1, t2⟩ := tkA_cells bt.row
      have H1 : Hid (TokB tc tr tu) := h1
      have H2 : Hid (comE (m : Int) c s n v = 0) := h2
      rw [h2]
      clear h1 h2 hz bt bc hT
      by_cases h3 : c = tc
      · have h3' : decide (c = tc) = true := decide_eq_true h3
        by_cases h4 : bits .and .i64 tr (needR m) = 0
        · have HE : Hid (11 = allE tc tr tu (m : Int) c s n v now) := (allE_right H1.out H2.out (fun g => hB.1 h4 g.1)).symm
          have H3 : Hid (c = tc) := h3
          clear hB H1 H2
          subst h3
          clear h3'
          generalize needR m = R at hR h4
          go_wp2_with fail
          go_quiet (fail)
          have e1 : Below w.heap.size w (w2.drewN nq) := below_drewN d2 nq
          generalize w2.drewN nq = w3 at e1 ⊢
          go_wp2
          go_ret
          exact ⟨ret_num HE.out, e1⟩
        · have HR : Hid (HasR (m : Int) tr ∧ c = tc) := ⟨Classical.not_not.1 fun g => h4 (hB.2 g), h3⟩
          clear hB
          subst h3
          clear h3'
          generalize needR m = R at hR h4
          go_wp2_with fail
          go_quiet (fail)
          have e1 : Below w.heap.size w (w2.drewN nq) := below_drewN d2 nq
          have t2' : (w2.drewN nq).cell? ⟨w.heap.size, 2, none⟩ = some (.int .i64 tu) := by simpa using t2
          generalize w2.drewN nq = w3 at e1 t2' ⊢
          clear c0 c1 c2 c3 c4 t0 t1 t2 hR
          go_wp2_with fail
          refine (upTo_any now tu _).mono ?_
          rintro e w4 ⟨rfl, rfl⟩
          by_cases h5 : 0 ≤ now ∧ now ≤ tu
          · rw [decide_eq_true h5]
            have HE : Hid (0 = allE c tr tu (m : Int) c s n v now) := (allE_ok H1.out H2.out ⟨HR.out.1, rfl⟩ h5).symm
            go_wp2
            go_ret
            exact ⟨ret_num HE.out, e1⟩
          · rw [decide_eq_false h5]
            have HE : Hid (10 = allE c tr tu (m : Int) c s n v now) := (allE_time H1.out H2.out ⟨HR.out.1, rfl⟩ h5).symm
            go_wp2
            go_ret
            exact ⟨ret_num HE.out, e1⟩
      · have h3' : decide (c = tc) = false := decide_eq_false h3
        have HE : Hid (11 = allE tc tr tu (m : Int) c s n v now) := (allE_right H1.out H2.out (fun g => h3 g.2)).symm
        clear hB H1 H2
        go_wp2_with fail
        go_quiet (fail)
        have e1 : Below w.heap.size w (w2.drewN nq) := below_drewN d2 nq
        generalize w2.drewN nq = w3 at e1 ⊢
        go_wp2
        go_ret
        exact ⟨ret_num HE.out, e1⟩
    · have HE : Hid (comE k c s n v = allE tc tr tu k c s n v now) := (allE_com h1 h2).symm
      go_wp2
      go_ret
      exact ⟨ret_num HE.out, d2⟩
  · rw [decide_eq_false h1]
    have HE : Hid (2 = allE tc tr tu k c s n v now) := (allE_tok h1).symm
    go_wp2
    go_ret
    exact ⟨ret_num HE.out, d1⟩
end Go.Proofs.YtjlboglcffdnoabDoor
