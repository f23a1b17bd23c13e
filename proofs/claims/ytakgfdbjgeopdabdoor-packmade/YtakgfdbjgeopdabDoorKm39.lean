/-
  The walk of Allows.
-/
import Derived.Test.YtakgfdbjgeopdabDoorKm27
import Derived.Test.YtakgfdbjgeopdabDoorKm38
import Derived.Test.YtakgfdbjgeopdabDoorKm37
import Derived.Test.YtakgfdbjgeopdabDoorKm36
import Derived.Test.YtakgfdbjgeopdabDoorKm28
import Derived.Test.YtakgfdbjgeopdabDoorKm3
namespace Go.Proofs.YtakgfdbjgeopdabDoor
open Go.RowKit
set_option linter.unusedVariables false

/-- the right that a kind needs -/
def needR (k : Nat) : Int := if k = 1 then 2 else if k = 2 then 1 else if k = 3 then 4 else 0
theorem NTab.right {w : World} (h : NTab w) (k : Nat) (h1 : k ≤ 3) : w.cell? ⟨0, k * 3, none⟩ = some (.int .i64 (needR k)) := by
  rcases (by omega : k = 0 ∨ k = 1 ∨ k = 2 ∨ k = 3) with rfl | rfl | rfl | rfl
  · exact h.cell 0 (by omega)
  · exact h.cell 3 (by omega)
  · exact h.cell 6 (by omega)
  · exact h.cell 9 (by omega)
/-- a set of rights has what is needed, by their bits -/
theorem hasR_bits (k : Nat) (r : Int) (hk : k ≤ 3) (h0 : 0 ≤ r) (h1 : r ≤ 7) : (bits .and .i64 r (needR k) = 0) ↔ ¬ HasR (k : Int) r := by
  have all : ∀ (i : Fin 4) (j : Fin 8), (bits .and .i64 ((j.val : Nat) : Int) (needR i.val) = 0) ↔ ¬ HasR ((i.val : Nat) : Int) ((j.val : Nat) : Int) := by decide +kernel
  obtain ⟨m, rfl⟩ := Int.eq_ofNat_of_zero_le h0
  exact all ⟨k, by omega⟩ ⟨m, by omega⟩

set_option maxHeartbeats 1000000 in
set_option maxRecDepth 100000 in
theorem allows_any (tc tr tu k c s n v now : Int) (w : World) (ht : NTab w) :
    Calls Tryd.prog 21 #[.agg (tkA tc tr tu), .agg (cmA k c s n v), .int .i64 now] w fun e w' => e = .returned (.int .i64 (allE tc tr tu k c s n v now)) ∧ Below w.heap.size w w' := by
  have b1 : Below w.heap.size w (w.alloc (.cells (tkA tc tr tu) 35)) := (Below.refl _ _).alloc (Nat.le_refl _) _
  have bt := Bt.made w tc tr tu
  have z1 : (w.alloc (.cells (tkA tc tr tu) 35)).heap.size = w.heap.size + 1 := by simp
  have b2 : Below (w.alloc (.cells (tkA tc tr tu) 35)).heap.size (w.alloc (.cells (tkA tc tr tu) 35)) ((w.alloc (.cells (tkA tc tr tu) 35)).alloc (.cells (cmA k c s n v) 32)) := (Below.refl _ _).alloc (Nat.le_refl _) _
  have bc := Bc.made (w.alloc (.cells (tkA tc tr tu) 35)) k c s n v
  replace bt := bt.below b2
  have bb := b1.trans (b2.mono b1.size)
  have hT := ht.below bb
  rw [z1] at bc
  clear b1 b2 ht z1
  have hic := comInfo k c s n v
  have hit := tokInfo tc tr tu
  generalize hW : (w.alloc (.cells (tkA tc tr tu) 35)).alloc (.cells (cmA k c s n v) 32) = W at bb bt bc hT
  go_enter Tryd.func21, Tryd.ntmps21
  go_wp2_with (refine wpList_load_row rfl 35 _ rfl w.heap.size rfl 35 _ (0, 0) _ bt.row Tryd.underlying35 rfl hit ?_)
  clear hW
  refine (mayBe_tok tc tr tu _).mono ?_
  rintro e w1 ⟨rfl, b1⟩
  have d1 : Below w.heap.size w w1 := bb.trans (b1.mono bb.size)
  replace bt := bt.below b1
  replace bc := bc.below b1
  replace hT := hT.below b1
  clear b1 bb
  by_cases h1 : TokB tc tr tu
  · rw [decide_eq_true h1]
    go_wp2_with (refine wpList_load_row rfl 32 _ rfl (w.heap.size + 1) rfl 32 _ (0, 0) _ bc.row Tryd.underlying32 rfl hic ?_)
    refine (oCheck_any k c s n v _ hT).mono ?_
    rintro e w2 ⟨rfl, b2⟩
    have d2 : Below w.heap.size w w2 := d1.trans (b2.mono d1.size)
    replace bt := bt.below b2
    replace bc := bc.below b2
    replace hT := hT.below b2
    clear b2 d1
    by_cases h2 : comE k c s n v = 0
    · have hz := comE_zero h2
      obtain ⟨m, rfl⟩ := Int.eq_ofNat_of_zero_le hz.1.1
      have k0 : (0 : Int) ≤ (m : Int) := by omega
      have k1 : (m : Int) < 4 := by omega
      have k2 : m < 4 := by omega
      have hR := hT.right m (by omega)
      have hB := hasR_bits m tr (by omega) h1.2.1.1 h1.2.1.2
      obtain ⟨c0, c1, c2, c3, c4⟩ := cmA_cells bc.row
      obtain ⟨t0, t1, t2⟩ := tkA_cells bt.row
      have H1 : Hid (TokB tc tr tu) := h1
      have H2 : Hid (comE (m : Int) c s n v = 0) := h2
      rw [h2]
      clear h1 h2 hz bt bc hT
      by_cases h3 : c = tc
      · have h3' : decide (c = tc) = true := decide_eq_true h3
        by_cases h4 : bits .and .i64 tr (needR m) = 0
        · have HE : Hid (11 = allE tc tr tu (m : Int) c s n v now) := (allE_right H1.out H2.out (fun g => hB.1 h4 g.1)).symm
          have H3 : Hid (c = tc) := h3
          clear hB H1 H2
          subst h3
          clear h3'
          generalize needR m = R at hR h4
          go_wp2_with fail
          go_quiet (fail)
          have e1 : Below w.heap.size w (w2.drewN nq) := below_drewN d2 nq
          generalize w2.drewN nq = w3 at e1 ⊢
          go_wp2
          go_ret
          exact ⟨ret_num HE.out, e1⟩
        · have HR : Hid (HasR (m : Int) tr ∧ c = tc) := ⟨Classical.not_not.1 fun g => h4 (hB.2 g), h3⟩
          clear hB
          subst h3
          clear h3'
          generalize needR m = R at hR h4
          go_wp2_with fail
          go_quiet (fail)
          have e1 : Below w.heap.size w (w2.drewN nq) := below_drewN d2 nq
          have t2' : (w2.drewN nq).cell? ⟨w.heap.size, 2, none⟩ = some (.int .i64 tu) := by simpa using t2
          generalize w2.drewN nq = w3 at e1 t2' ⊢
          clear c0 c1 c2 c3 c4 t0 t1 t2 hR
          go_wp2_with fail
          refine (upTo_any now tu _).mono ?_
          rintro e w4 ⟨rfl, rfl⟩
          by_cases h5 : 0 ≤ now ∧ now ≤ tu
          · rw [decide_eq_true h5]
            have HE : Hid (0 = allE c tr tu (m : Int) c s n v now) := (allE_ok H1.out H2.out ⟨HR.out.1, rfl⟩ h5).symm
            go_wp2
            go_ret
            exact ⟨ret_num HE.out, e1⟩
          · rw [decide_eq_false h5]
            have HE : Hid (10 = allE c tr tu (m : Int) c s n v now) := (allE_time H1.out H2.out ⟨HR.out.1, rfl⟩ h5).symm
            go_wp2
            go_ret
            exact ⟨ret_num HE.out, e1⟩
      · have h3' : decide (c = tc) = false := decide_eq_false h3
        have HE : Hid (11 = allE tc tr tu (m : Int) c s n v now) := (allE_right H1.out H2.out (fun g => h3 g.2)).symm
        clear hB H1 H2
        go_wp2_with fail
        go_quiet (fail)
        have e1 : Below w.heap.size w (w2.drewN nq) := below_drewN d2 nq
        generalize w2.drewN nq = w3 at e1 ⊢
        go_wp2
        go_ret
        exact ⟨ret_num HE.out, e1⟩
    · have HE : Hid (comE k c s n v = allE tc tr tu k c s n v now) := (allE_com h1 h2).symm
      go_wp2
      go_ret
      exact ⟨ret_num HE.out, d2⟩
  · rw [decide_eq_false h1]
    have HE : Hid (2 = allE tc tr tu k c s n v now) := (allE_tok h1).symm
    go_wp2
    go_ret
    exact ⟨ret_num HE.out, d1⟩
end Go.Proofs.YtakgfdbjgeopdabDoor
/-
  A token is proved as it was granted, a command decoded as it was encoded: in plain lists.
-/
namespace Go.Proofs.YtakgfdbjgeopdabDoor
open Go.RowKit
set_option linter.unusedVariables false

theorem tok_back {key : List Int} {c r u : Int} (hk : key.length = 32) (h : TokB c r u) : prvE key (tokL key c r u) = 0 ∧ prvV key (tokL key c r u) = tkA c r u := by
  have e6 : (tokL key c r u).take 6 = tokH c r u := by unfold tokL; rw [List.take_append_of_le_length (by rw [tokH_length]; omega), List.take_of_length_le (by rw [tokH_length]; omega)]
  have ed : (tokL key c r u).drop 6 = (macL key (tokH c r u)).take 16 := by unfold tokL; rw [List.drop_append_of_le_length (by rw [tokH_length]; omega), List.drop_of_length_le (by rw [tokH_length]; omega), List.nil_append]
  have g0 : (tokL key c r u).getD 0 0 = c := rfl
  have g1 : (tokL key c r u).getD 1 0 = r := rfl
  have g2 : numA (tokL key c r u) 2 = u := numA_tokH c r u _ h.2.2.1 (by have := h.2.2.2; omega)
  have e : prvE key (tokL key c r u) = 0 := by
    rw [prvE_tok hk (tokL_length key c r u) (by rw [e6, ed]), g0, g1, g2, tokE_ok h]
  exact ⟨e, by rw [prvV_ok e, g0, g1, g2]⟩
theorem com_back {k c s n v : Int} (h : comE k c s n v = 0) : decE (comL k c s n v) = 0 ∧ decV (comL k c s n v) = cmA k c s n v := by
  obtain ⟨hk, hc⟩ := comE_zero h
  unfold InC at hc
  have e : decE (comL k c s n v) = 0 := by
    unfold decE
    rw [if_neg (fun g => g (comL_length k c s n v)), numA_com0 k c s n v (by omega) (by omega), numA_com4 k c s n v (by omega) (by omega), numA_com8 k c s n v (by omega) (by omega), numA_com12 k c s n v (by omega) (by omega), numA_com16 k c s n v (by omega) (by omega)]
    exact h
  refine ⟨e, ?_⟩
  unfold decV
  rw [if_pos e, numA_com0 k c s n v (by omega) (by omega), numA_com4 k c s n v (by omega) (by omega), numA_com8 k c s n v (by omega) (by omega), numA_com12 k c s n v (by omega) (by omega), numA_com16 k c s n v (by omega) (by omega)]
end Go.Proofs.YtakgfdbjgeopdabDoor
/-
  Records that are taken, and records that were sent, in plain lists.
-/
namespace Go.Proofs.YtakgfdbjgeopdabDoor
open Go.RowKit
set_option linter.unusedVariables false

theorem head_fits {K h : List Int} (hK : K.length = 32) (hh : h.length = 4) : fits K (nonceL h) h = true := fits_of hK (nonceL_length hh) (by omega)
theorem rec_taken {K : List Int} {s t : Int} {l : List Bool} {D : List Int} (h : takeE K s t l D = 0) (hb : ∀ x ∈ D, 0 ≤ x ∧ x < 256) : recL K (numL (D.take 4)) (takeL K D) = D ∧ (takeL K D).length + 20 = D.length ∧ (takeL K D).length ≤ 2000 := by
  obtain ⟨hok, h20, h2020, _, _, hop⟩ := takeE_ok h
  have hh : (D.take 4).length = 4 := by rw [List.length_take]; omega
  have hdl : (D.drop 4).length = D.length - 4 := by rw [List.length_drop]
  have hhb : ∀ x ∈ D.take 4, 0 ≤ x ∧ x < 256 := fun x hx => hb x (List.mem_of_mem_take hx)
  have hdb : ∀ x ∈ D.drop 4, 0 ≤ x ∧ x < 256 := fun x hx => hb x (List.mem_of_mem_drop hx)
  have hf := head_fits hok.key hh
  have hst : stagL K (nonceL (D.take 4)) (D.take 4) ((D.drop 4).take ((D.drop 4).length - 16)) = (D.drop 4).drop ((D.drop 4).length - 16) := by
    rcases openE_is hf (show (D.drop 4).length ≤ 2016 by omega) with ⟨_, _, h3⟩ | h3 | ⟨h3, _⟩
    · exact h3
    · rw [hop] at h3; omega
    · rw [hop] at h3; omega
  have hs := seal_opened hop hst hdb
  have hl : (takeL K D).length = D.length - 20 := by
    unfold takeL openL
    rw [if_pos hop, smixL_length, List.length_take]
    omega
  refine ⟨?_, by omega, by omega⟩
  unfold recL
  rw [headL_num hh hhb]
  unfold takeL
  rw [hs]
  exact List.take_append_drop 4 D
theorem num_rec (K : List Int) (n : Int) (p : List Int) (n0 : 0 ≤ n) (n1 : n < 1073741824) : numL ((recL K n p).take 4) = n := by rw [recL_take, numL_head n n0 (by omega)]
theorem take_rec {K : List Int} {s t : Int} {l : List Bool} {n : Int} {p : List Int} (hok : OkC K s t l) (n0 : 0 ≤ n) (n1 : n < 1073741824) (lp : p.length ≤ 2000) (hp : ∀ x ∈ p, 0 ≤ x ∧ x < 256) (hold : oldB t l n = false) : takeE K s t l (recL K n p) = 0 := by
  rw [takeE_of hok (by rw [recL_length]; omega) (by rw [recL_length]; omega) (by rw [num_rec K n p n0 n1]; exact n1) (by rw [num_rec K n p n0 n1]; exact hold), recL_take, recL_drop]
  exact open_sealed (head_fits hok.key rfl) lp
theorem take_rec_old {K : List Int} {s t : Int} {l : List Bool} {n : Int} {p : List Int} (hok : OkC K s t l) (n0 : 0 ≤ n) (n1 : n < 1073741824) (lp : p.length ≤ 2000) (hold : oldB t l n = true) : takeE K s t l (recL K n p) = 7 :=
  takeE_old hok (by rw [recL_length]; omega) (by rw [recL_length]; omega) (by rw [num_rec K n p n0 n1]; exact n1) (by rw [num_rec K n p n0 n1]; exact hold)
theorem take_plain {K : List Int} {n : Int} {p : List Int} (hK : K.length = 32) (lp : p.length ≤ 2000) (hp : ∀ x ∈ p, 0 ≤ x ∧ x < 256) : takeL K (recL K n p) = p := by
  unfold takeL
  rw [recL_take, recL_drop]
  exact open_plain (head_fits hK rfl) lp hp
end Go.Proofs.YtakgfdbjgeopdabDoor
/-
  What a client packs is opened: in plain lists. No program is named here.
-/
namespace Go.Proofs.YtakgfdbjgeopdabDoor
open Go.RowKit
set_option linter.unusedVariables false

section
variable {n tc tr tu k c s m v : Int} (h : paE n tc tr tu k c s m v = 0)
include h
theorem pa_opd : opdE (paL n tc tr tu k c s m v) = 0 ∧ opdL (paL n tc tr tu k c s m v) = paP tc tr tu k c s m v := by
  obtain ⟨hn, hB, hC⟩ := paE_zero h
  have hc := (comE_zero hC).2
  have e : opdE (c :: recL (keyL c) n (paP tc tr tu k c s m v)) = 0 := by
    unfold opdE
    rw [if_neg (by simp), List.getD_cons_zero, if_neg (by have := hc.2.1; omega), List.drop_one, List.tail_cons]
    exact take_rec (OkC.new (keyL_length c) 0 (by omega) (by omega)) hn.1 hn.2 (by rw [paP_length]; omega) (paP_byte hB) (oldB_ge hn.1)
  rw [paL_ok h]
  refine ⟨e, ?_⟩
  unfold opdL
  rw [if_pos e, List.getD_cons_zero, List.drop_one, List.tail_cons]
  exact take_plain (keyL_length c) (by rw [paP_length]; omega) (paP_byte hB)
theorem pa_un : unT (paL n tc tr tu k c s m v) = tokL issL tc tr tu ∧ unQ (paL n tc tr tu k c s m v) = comL k c s m v := by
  unfold unT unQ
  rw [(pa_opd h).2]
  unfold paP
  exact ⟨by rw [List.take_append_of_le_length (by rw [tokL_length]; omega), List.take_of_length_le (by rw [tokL_length]; omega)], by rw [List.drop_append_of_le_length (by rw [tokL_length]; omega), List.drop_of_length_le (by rw [tokL_length]; omega), List.nil_append]⟩
theorem pa_unE : unE (paL n tc tr tu k c s m v) = 0 := by
  obtain ⟨hn, hB, hC⟩ := paE_zero h
  obtain ⟨h1, h2⟩ := pa_opd h
  obtain ⟨h3, h4⟩ := pa_un h
  unfold unE
  rw [if_neg (fun g => g h1), if_neg (by rw [h2, paP_length]; simp), h3, if_neg (fun g => g (tok_back issL_length hB).1), h4]
  exact (com_back hC).1
theorem pa_numbers : (unT (paL n tc tr tu k c s m v)).getD 0 0 = tc ∧ (unT (paL n tc tr tu k c s m v)).getD 1 0 = tr ∧ numA (unT (paL n tc tr tu k c s m v)) 2 = tu ∧ numA (unQ (paL n tc tr tu k c s m v)) 0 = k ∧ numA (unQ (paL n tc tr tu k c s m v)) 4 = c ∧ numA (unQ (paL n tc tr tu k c s m v)) 8 = s ∧ numA (unQ (paL n tc tr tu k c s m v)) 12 = m ∧ numA (unQ (paL n tc tr tu k c s m v)) 16 = v := by
  obtain ⟨hn, hB, hC⟩ := paE_zero h
  obtain ⟨h3, h4⟩ := pa_un h
  rw [h3, h4]
  obtain ⟨hk, hc⟩ := comE_zero hC
  unfold InC at hc
  exact ⟨rfl, rfl, numA_tokH tc tr tu _ hB.2.2.1 (by have := hB.2.2.2; omega), numA_com0 k c s m v (by omega) (by omega), numA_com4 k c s m v (by omega) (by omega), numA_com8 k c s m v (by omega) (by omega), numA_com12 k c s m v (by omega) (by omega), numA_com16 k c s m v (by omega) (by omega)⟩
/-- what opening says of it at a time is what the token says -/
theorem pa_open (now : Int) : opE (paL n tc tr tu k c s m v) now = allE tc tr tu k c s m v now ∧ opA (paL n tc tr tu k c s m v) now = if allE tc tr tu k c s m v now = 0 then cmA k c s m v else cmA 0 0 0 0 0 := by
  obtain ⟨e0, e1, e2, e3, e4, e5, e6, e7⟩ := pa_numbers h
  have hE : opE (paL n tc tr tu k c s m v) now = allE tc tr tu k c s m v now := by
    unfold opE
    rw [if_neg (fun g => g (pa_unE h)), e0, e1, e2, e3, e4, e5, e6, e7, if_neg]
    rintro ⟨_, h2⟩
    rw [paL_ok h, List.getD_cons_zero] at h2
    exact h2 rfl
  refine ⟨hE, ?_⟩
  unfold opA
  rw [hE, e3, e4, e5, e6, e7]
end
/-- bytes that are too few are not opened -/
theorem pa_torn {n tc tr tu k c s m v : Int} (h : paE n tc tr tu k c s m v = 0) (j : Nat) (hj : j ≤ 20) (now : Int) : opE ((paL n tc tr tu k c s m v).take j) now = 13 ∧ opA ((paL n tc tr tu k c s m v).take j) now = cmA 0 0 0 0 0 := by
  obtain ⟨hn, hB, hC⟩ := paE_zero h
  have hc := (comE_zero hC).2
  have e : opdE ((paL n tc tr tu k c s m v).take j) = 13 := by
    rw [paL_ok h]
    cases j with
    | zero => rfl
    | succ j =>
      rw [List.take_succ_cons]
      unfold opdE
      rw [if_neg (by simp), List.getD_cons_zero, if_neg (by have := hc.2.1; omega), List.drop_one, List.tail_cons]
      unfold takeE
      have hl : ((recL (keyL c) n (paP tc tr tu k c s m v)).take j).length ≤ 19 := by rw [List.length_take]; omega
      rw [if_neg (fun g => g (OkC.new (keyL_length c) 0 (by omega) (by omega))), if_neg (by omega), if_pos (by omega)]
  have hE : opE ((paL n tc tr tu k c s m v).take j) now = 13 := by
    unfold opE
    have : unE ((paL n tc tr tu k c s m v).take j) = 13 := by unfold unE; rw [if_pos (by rw [e]; decide), e]
    rw [if_pos (by rw [this]; decide), this]
  exact ⟨hE, opA_no (by rw [hE]; decide)⟩
theorem paL_length {n tc tr tu k c s m v : Int} (h : paE n tc tr tu k c s m v = 0) : (paL n tc tr tu k c s m v).length = 63 := by
  rw [paL_ok h, List.length_cons, recL_length, paP_length]
end Go.Proofs.YtakgfdbjgeopdabDoor
/-
  The walk of a number that is picked.
-/
namespace Go.Proofs.YtakgfdbjgeopdabDoor
open Go.RowKit

def pick (n many : Int) : Int := if n < 0 then (-(n + 1)) % many else n % many

theorem pick_range (n many : Int) (hm : 0 < many) : 0 ≤ pick n many ∧ pick n many < many := by
  unfold pick
  split
  · exact ⟨Int.emod_nonneg _ (by omega), Int.emod_lt_of_pos _ hm⟩
  · exact ⟨Int.emod_nonneg _ (by omega), Int.emod_lt_of_pos _ hm⟩

theorem ret_i64 {a b : Int} (h : a = b) : Ending.returned (.int .i64 a) = .returned (.int .i64 b) := by rw [h]

theorem picked_any (n many : Int) (w : World) (h1 : -9223372036854775808 ≤ n) (h2 : n ≤ 9223372036854775807) (hm : 0 < many) (hm2 : many ≤ 9223372036854775807) :
    Calls Tryd.prog 6 #[.int .i64 n, .int .i64 many] w fun e w' => e = .returned (.int .i64 (pick n many)) ∧ w' = w := by
  by_cases hn : n < 0
  · go_enter Tryd.func6, Tryd.ntmps6
    go_wp2
    go_ret
    exact ⟨ret_i64 (by unfold pick; rw [if_pos hn, ← Int.neg_tmod, Int.tmod_eq_emod_of_nonneg (by omega)]), rfl⟩
  · go_enter Tryd.func6, Tryd.ntmps6
    go_wp2
    go_ret
    exact ⟨ret_i64 (by unfold pick; rw [if_neg (by omega)]), rfl⟩
end Go.Proofs.YtakgfdbjgeopdabDoor
