/-
  The walk of the document's own sending on a channel.
-/
import Derived.Test.YtakgfdbjgeopdaaGreatDoorKp39
import Derived.Test.YtakgfdbjgeopdaaGreatDoorKp32
namespace Go.Proofs.YtakgfdbjgeopdaaGreatDoor
open Go.RowKit
set_option linter.unusedVariables false

set_option maxHeartbeats 2000000 in
set_option maxRecDepth 100000 in
theorem sentOn_no (vk : Value) (key : List Int) (s t : Int) (l : List Bool) (vp : Value) (p : List Int) (w : World) (hk : Sl w vk key) (hl : l.length = 8) (hp : Sl w vp p) (E : Int) (hE : sendE key s t l p = E) (hE0 : E ≠ 0) :
    Calls Tryz.prog 28 #[.agg (chA vk s t l), vp] w fun e w' => e = .returned (.tuple #[.agg (chA (.slice none 0 0) 0 0 noB), .slice none 0 0, .int .i64 E]) ∧ Below w.heap.size w w' := by
  have bx := By.new w vk s t l
  have hi := chInfo (k := vk) (s := s) (t := t) hl
  have hi4 := chInfo (k := .slice none 0 0) (s := 0) (t := 0) noB_length
  have ho4 := chA_one (Sl.nil w none) 0 0 noB
  obtain ⟨ap, cp, rfl⟩ := hp.shape
  have hpl := hp.len
  go_enter Tryz.func28, Tryz.ntmps28
  go_wp2_with (refine wpList_load_row rfl 55 _ rfl w.heap.size rfl 55 _ (0, 0) _ bx.row Tryz.underlying55 rfl hi ?_)
  refine (chfault_any vk key s t l _ (hk.below bx.bel) hl).mono ?_
  rintro e w1 ⟨rfl, b1⟩
  replace bx := bx.step b1
  clear b1
  have c1 := bx.c1
  have HFIN : Hid (∀ W : World, Below w1.heap.size w1 W → W.heap[w.heap.size + 1]? = some (.cells (chA (.slice none 0 0) 0 0 noB) 55 (0, 0)) ∧ Below w.heap.size w W) := fun W hW => ⟨(bx.step hW).res, (bx.step hW).bel⟩
  by_cases hok : OkC key s t l
  · rw [checkE_ok hok]
    have s0 := hok.s0
    have s1 := hok.s1
    by_cases h1 : 2000 < p.length
    · have H1 : Hid (1 = E) := by rw [← hE]; unfold Hid sendE; rw [if_neg (by simpa using hok), if_pos h1]
      have h1' : (2000 : Int) < (p.length : Int) := by omega
      clear hE
      go_wp2_with (refine wpList_store_row rfl 55 _ _ rfl (w.heap.size + 1) (chA (.slice none 0 0) 0 0 noB) rfl rfl 55 _ bx.res hi4 rfl ho4 ?_)
      have r2 := setRow_heap w1 (w.heap.size + 1) _ (chA (.slice none 0 0) 0 0 noB) 55 _ bx.res
      exact bodyPost_ret (results_row3 rfl _ _ (w.heap.size + 1) 55 _ (0, 0) _ rfl r2 Tryz.underlying55 rfl hi4) rfl ⟨by rw [← H1.out]; rfl, below_setRow bx.bel (by omega) _⟩
    · have h1' : ¬ (2000 : Int) < (p.length : Int) := by omega
      have hs : s = 1073741824 := by
        rcases Int.lt_or_eq_of_le s1 with h | h
        · exact absurd ((sendE_of hok (by omega) h).symm.trans hE).symm hE0
        · exact h
      have H1 : Hid (8 = E) := by rw [← hE]; unfold Hid sendE; rw [if_neg (by simpa using hok), if_neg h1, if_pos hs]
      clear hE
      subst hs
      go_wp2_with (refine wpList_store_row rfl 55 _ _ rfl (w.heap.size + 1) (chA (.slice none 0 0) 0 0 noB) rfl rfl 55 _ bx.res hi4 rfl ho4 ?_)
      have r2 := setRow_heap w1 (w.heap.size + 1) _ (chA (.slice none 0 0) 0 0 noB) 55 _ bx.res
      exact bodyPost_ret (results_row3 rfl _ _ (w.heap.size + 1) 55 _ (0, 0) _ rfl r2 Tryz.underlying55 rfl hi4) rfl ⟨by rw [← H1.out]; rfl, below_setRow bx.bel (by omega) _⟩
  · rw [checkE_no hok]
    have H1 : Hid (5 = E) := by rw [← hE]; unfold Hid sendE; rw [if_pos (by simpa using hok)]
    clear hE
    go_wp2_with (refine wpList_store_row rfl 55 _ _ rfl (w.heap.size + 1) (chA (.slice none 0 0) 0 0 noB) rfl rfl 55 _ bx.res hi4 rfl ho4 ?_)
    have r2 := setRow_heap w1 (w.heap.size + 1) _ (chA (.slice none 0 0) 0 0 noB) 55 _ bx.res
    exact bodyPost_ret (results_row3 rfl _ _ (w.heap.size + 1) 55 _ (0, 0) _ rfl r2 Tryz.underlying55 rfl hi4) rfl ⟨by rw [← H1.out]; rfl, below_setRow bx.bel (by omega) _⟩

set_option maxHeartbeats 2000000 in
set_option maxRecDepth 100000 in
theorem sentOn_ok (vk : Value) (key : List Int) (s t : Int) (l : List Bool) (vp : Value) (p : List Int) (w : World) (hk : Sl w vk key) (hl : l.length = 8) (hp : Sl w vp p) (hE : sendE key s t l p = 0) :
    Calls Tryz.prog 28 #[.agg (chA vk s t l), vp] w fun e w' => ∃ v1, ∃ v2, e = .returned (.tuple #[.agg (chA v1 (s + 1) t l), v2, .int .i64 0]) ∧ Sl w' v1 key ∧ w'.ownsRow 0 5 1 v1 key.length (key.map (Value.int .u8)) ∧ Sl w' v2 (recL key s p) ∧ Below w.heap.size w w' := by
  have bx := By.new w vk s t l
  have hi := chInfo (k := vk) (s := s) (t := t) hl
  obtain ⟨ap, cp, rfl⟩ := hp.shape
  obtain ⟨hok, hp2, s1⟩ := sendE_ok hE
  have s0 := hok.s0
  have t0 := hok.t0
  have t1 := hok.t1
  clear hE
  have h1' : ¬ (2000 : Int) < (p.length : Int) := by omega
  have hs : ¬ s = 1073741824 := by omega
  obtain ⟨ak, ck, rfl⟩ := hk.shape
  have HKL : Hid (key.length = 32) := hok.key
  generalize hnk : key.length = nk at hk hi bx ⊢
  have HNK : Hid (key.length = nk) := hnk
  clear hnk
  go_enter Tryz.func28, Tryz.ntmps28
  go_wp2_with (refine wpList_load_row rfl 55 _ rfl w.heap.size rfl 55 _ (0, 0) _ bx.row Tryz.underlying55 rfl hi ?_)
  refine (chfault_any _ key s t l _ (hk.below bx.bel) hl).mono ?_
  rintro e w1 ⟨rfl, b1⟩
  rw [checkE_ok hok]
  replace bx := bx.step b1
  clear b1
  have c1 := bx.c1
  go_wp2_with fail
  refine (refHead_any s w1 s0 s1).mono ?_
  rintro e w2 ⟨vh, rfl, sh, b2⟩
  replace bx := bx.step b2
  clear b2 c1
  go_wp2_with fail
  have bz : Below w2.heap.size w2 (w2.alloc (.cells #[.int .u8 0, .int .u8 0, .int .u8 0, .int .u8 0, .int .u8 0, .int .u8 0, .int .u8 0, .int .u8 0] 5)) := (Below.refl _ _).alloc (Nat.le_refl _) _
  refine (join_sl _ vh (List.replicate 8 0) (headL s) _ (Sl.zero8 w2 _) (sh.below bz) (by simp) (by rw [headL_length]; omega)).mono ?_
  rintro e w3 ⟨vn, rfl, sn, b3⟩
  have bz3 : Below w2.heap.size w2 w3 := bz.trans (b3.mono (by simp))
  replace bx := bx.step bz3
  have sh3 := sh.below bz3
  clear bz b3 bz3 sh
  have c0 := bx.c0
  go_wp2_with fail
  refine (sealed_any _ vn vh _ key (nonceL (headL s)) (headL s) p w3 (hk.below bx.bel) sn sh3 (hp.below bx.bel)).mono ?_
  rintro e w4 ⟨vx, rfl, sx, b4⟩
  have HF : fits key (nonceL (headL s)) (headL s) = true ∧ p.length ≤ 2000 := ⟨fits_of hok.key (nonceL_length rfl) (by rw [headL_length]; omega), hp2⟩
  rw [show sealE key (nonceL (headL s)) (headL s) p = 0 from if_pos HF]
  rw [show sealR key (nonceL (headL s)) (headL s) p = sealL key (nonceL (headL s)) (headL s) p from if_pos HF] at sx
  clear HF sn c0
  replace bx := bx.step b4
  have sh4 := sh3.below b4
  clear sh3 b4
  have hlx := sealL_length key (nonceL (headL s)) (headL s) p
  have HX : Hid (recL key s p = headL s ++ sealL key (nonceL (headL s)) (headL s) p) := rfl
  generalize sealL key (nonceL (headL s)) (headL s) p = X at hlx sx HX
  go_wp2_with (refine wpList_load_row rfl 55 _ rfl w.heap.size rfl 55 _ (0, 0) _ bx.row Tryz.underlying55 rfl hi ?_)
  refine (met_any _ s t l w4 hl t0 t1).mono ?_
  rintro e w5 ⟨vm, rfl, om, b5⟩
  replace bx := bx.step b5
  have sh5 := sh4.below b5
  have sx5 := sx.below b5
  replace om := owns_lower om (Nat.zero_le _)
  clear b5 sh4 sx
  have c0 := bx.c0
  have c1 := bx.c1
  go_wp2_with fail
  refine (chan_met _ key (s + 1) vm t l w5 (hk.below bx.bel) (by have := HKL.out; omega) om t0 t1).mono ?_
  rintro e w6 ⟨v6, rfl, o6, b6⟩
  rw [(metL_again hl hok).1, (metL_again hl hok).2]
  replace bx := bx.step b6
  have sh6 := sh5.below b6
  have sx6 := sx5.below b6
  have s6 := Sl.ofOwns o6 (by have := HKL.out; omega) hk.byte
  clear b6 sh5 sx5 c0 c1 om
  go_wp2_with fail
  refine (join_sl vh vx (headL s) X w6 sh6 sx6 (by rw [headL_length]; omega) (by omega)).mono ?_
  rintro e w7 ⟨v7, rfl, s7, b7⟩
  rw [← HX.out] at s7
  replace bx := bx.step b7
  replace s6 := s6.below b7
  replace o6 := owns_below o6 b7
  clear b7 sh6 sx6
  obtain ⟨a6, n6, hv6⟩ := s6.shape
  rw [HNK.out] at hv6
  rw [HNK.out] at o6
  subst hv6
  have hi4 := chInfo (k := .slice a6 nk n6) (s := s + 1) (t := t) hl
  have ho4 := chA_one s6 (s + 1) t l
  have hold : (chA (.slice none 0 0) 0 0 noB).size = (chA (.slice a6 nk n6) (s + 1) t l).size := by rw [chA_size, chA_size, hl]; rfl
  go_wp2_with (refine wpList_store_row rfl 55 _ _ rfl (w.heap.size + 1) _ rfl rfl 55 _ bx.res hi4 hold ho4 ?_)
  have r2 := setRow_heap w7 (w.heap.size + 1) _ (chA (.slice a6 nk n6) (s + 1) t l) 55 _ bx.res
  exact bodyPost_ret (results_row3 rfl _ _ (w.heap.size + 1) 55 _ (0, 0) _ rfl r2 Tryz.underlying55 rfl hi4) rfl ⟨.slice a6 nk n6, v7, rfl, s6.setRowBox bx.res _, own_setRowBox o6 bx.res (by decide) _, s7.setRowBox bx.res _, below_setRow bx.bel (by omega) _⟩
end Go.Proofs.YtakgfdbjgeopdaaGreatDoor
/-
  A number laid among the numbers that were met: what channel that makes.
-/
namespace Go.Proofs.YtakgfdbjgeopdaaGreatDoor
open Go.RowKit
set_option linter.unusedVariables false

/-- whether a greater number has come among the first i -/
def insD (L : List Int) (n : Int) : Nat → Bool
  | 0 => false
  | i + 1 => insD L n i || decide (n < L.getD i 0)
/-- what the first i numbers make, with n ahead of the first greater one -/
def insO (L : List Int) (n : Int) : Nat → List Int
  | 0 => []
  | i + 1 => (if insD L n i = false ∧ n < L.getD i 0 then insO L n i ++ [n] else insO L n i) ++ [L.getD i 0]
def insF (L : List Int) (n : Int) : List Int := if insD L n L.length = true then insO L n L.length else insO L n L.length ++ [n]
theorem insD_iff (L : List Int) (n : Int) (i : Nat) : insD L n i = true ↔ ∃ j, j < i ∧ n < L.getD j 0 := by
  induction i with
  | zero => simp [insD]
  | succ i ih =>
    rw [insD, Bool.or_eq_true, ih, decide_eq_true_iff]
    constructor
    · rintro (⟨j, h1, h2⟩ | h)
      · exact ⟨j, by omega, h2⟩
      · exact ⟨i, by omega, h⟩
    · rintro ⟨j, h1, h2⟩
      by_cases h : j = i
      · right; rw [← h]; exact h2
      · left; exact ⟨j, by omega, h2⟩
theorem insO_mem (L : List Int) (n : Int) (i : Nat) (x : Int) : x ∈ insO L n i ↔ (∃ j, j < i ∧ x = L.getD j 0) ∨ (x = n ∧ insD L n i = true) := by
  induction i with
  | zero => simp [insO, insD]
  | succ i ih =>
    have key : x ∈ (if insD L n i = false ∧ n < L.getD i 0 then insO L n i ++ [n] else insO L n i) ↔ (x ∈ insO L n i ∨ (x = n ∧ insD L n i = false ∧ n < L.getD i 0)) := by
      split
      · rename_i h
        rw [List.mem_append, List.mem_singleton]
        constructor
        · rintro (h1 | h1)
          · exact .inl h1
          · exact .inr ⟨h1, h⟩
        · rintro (h1 | h1)
          · exact .inl h1
          · exact .inr h1.1
      · rename_i h
        constructor
        · exact .inl
        · rintro (h1 | h1)
          · exact h1
          · exact absurd h1.2 h
    rw [insO, List.mem_append, key, ih, List.mem_singleton, insD, Bool.or_eq_true, decide_eq_true_iff]
    constructor
    · rintro (((⟨j, h1, h2⟩ | ⟨h1, h2⟩) | ⟨h1, h2, h3⟩) | h)
      · exact .inl ⟨j, by omega, h2⟩
      · exact .inr ⟨h1, .inl h2⟩
      · exact .inr ⟨h1, .inr h3⟩
      · exact .inl ⟨i, by omega, h⟩
    · rintro (⟨j, h1, h2⟩ | ⟨h1, h2⟩)
      · by_cases h : j = i
        · right; rw [← h]; exact h2
        · left; left; left; exact ⟨j, by omega, h2⟩
      · rcases h2 with h2 | h2
        · left; left; right; exact ⟨h1, h2⟩
        · cases hd : insD L n i with
          | true => left; left; right; exact ⟨h1, rfl⟩
          | false => left; right; exact ⟨h1, rfl, h2⟩
theorem insO_length (L : List Int) (n : Int) (i : Nat) : (insO L n i).length = i + (if insD L n i = true then 1 else 0) := by
  induction i with
  | zero => simp [insO, insD]
  | succ i ih =>
    rw [insO, List.length_append, List.length_singleton, insD]
    cases hd : insD L n i with
    | true =>
      rw [hd, if_pos rfl] at ih
      rw [if_neg (fun h => by cases h.1), ih]
      simp
    | false =>
      rw [hd, if_neg (by simp)] at ih
      by_cases h : n < L.getD i 0
      · rw [if_pos ⟨rfl, h⟩, List.length_append, ih, decide_eq_true h]
        simp
      · rw [if_neg (fun h' => h h'.2), ih, decide_eq_false h]
        simp
theorem insF_length (L : List Int) (n : Int) : (insF L n).length = L.length + 1 := by
  unfold insF
  have := insO_length L n L.length
  split
  · rename_i h; rw [if_pos h] at this; omega
  · rename_i h; rw [if_neg h] at this; rw [List.length_append, this]; rfl
theorem mem_getD (L : List Int) (x : Int) : x ∈ L ↔ ∃ j, j < L.length ∧ x = L.getD j 0 := by
  rw [List.mem_iff_getElem]
  constructor
  · rintro ⟨j, hj, rfl⟩
    exact ⟨j, hj, (getD_at hj).symm⟩
  · rintro ⟨j, hj, rfl⟩
    exact ⟨j, hj, (getD_at hj).symm⟩
theorem insF_mem (L : List Int) (n x : Int) : x ∈ insF L n ↔ x ∈ L ∨ x = n := by
  unfold insF
  split
  · rename_i h
    rw [insO_mem, h, mem_getD]
    simp
  · rename_i h
    rw [List.mem_append, insO_mem, List.mem_singleton, ← mem_getD]
    constructor
    · rintro ((h1 | h1) | h1)
      · exact .inl h1
      · exact .inr h1.1
      · exact .inr h1
    · rintro (h1 | h1)
      · exact .inl (.inl h1)
      · exact .inr h1
theorem insO_last (L : List Int) (n : Int) (i : Nat) : (insO L n (i + 1)).getLast? = some (L.getD i 0) := by
  rw [insO]; simp
theorem metL_iff {t : Int} {l : List Bool} (x : Int) : x ∈ metL t l 8 ↔ metB t l x = true := by
  rw [metL_mem]
  constructor
  · rintro ⟨i, h1, h2, rfl⟩
    rw [metB_at t l i h1]; exact h2
  · intro h
    obtain ⟨h1, h2⟩ := metB_lt h
    rw [metB_of h1 h2] at h
    exact ⟨(x - (t - 8)).toNat, by omega, h, by omega⟩
theorem insF_top {key : List Int} {s t : Int} {l : List Bool} (hl : l.length = 8) (hok : OkC key s t l) (n : Int) (n0 : 0 ≤ n) (hnot : n ∉ metL t l 8) : chT (insF (metL t l 8) n) = takT t n := by
  have ht := (metL_again hl hok).1
  have hr : ∀ x ∈ metL t l 8, t - 8 ≤ x ∧ x < t := fun x hx => metL_range x hx
  generalize metL t l 8 = L at ht hr hnot
  unfold insF takT
  cases hd : insD L n L.length with
  | true =>
    rw [if_pos rfl]
    obtain ⟨j, h1, h2⟩ := (insD_iff L n L.length).1 hd
    have hj := (hr _ ((mem_getD L _).2 ⟨j, h1, rfl⟩)).2
    rw [if_neg (by omega)]
    obtain ⟨m, hm⟩ : ∃ m, L.length = m + 1 := ⟨L.length - 1, by omega⟩
    rw [hm, chT_last (insO_last L n m)]
    have hlast : L.getLast? = some (L.getD m 0) := by
      rw [List.getLast?_eq_getElem?, hm, Nat.add_sub_cancel, List.getElem?_eq_getElem (by omega), getD_at (by omega)]
    rw [chT_last hlast] at ht
    exact ht
  | false =>
    rw [if_neg (by simp), chT_last (x := n) (by simp)]
    have hlt : ∀ x ∈ L, x < n := fun x hx => by
      obtain ⟨j, h1, rfl⟩ := (mem_getD L x).1 hx
      have h2 : ¬ n < L.getD j 0 := fun h => by
        have := (insD_iff L n L.length).2 ⟨j, h1, h⟩
        rw [hd] at this; cases this
      have h3 : L.getD j 0 ≠ n := fun h => hnot (h ▸ hx)
      omega
    rw [if_pos]
    rcases hg : L.getLast? with _ | x
    · unfold chT at ht; rw [hg] at ht; simp at ht; omega
    · have := hlt x (List.mem_of_getLast? hg)
      rw [chT_last hg] at ht
      omega
theorem insF_seen {key : List Int} {s t : Int} {l : List Bool} (hl : l.length = 8) (hok : OkC key s t l) (n : Int) (n0 : 0 ≤ n) (hnot : n ∉ metL t l 8) : chS (insF (metL t l 8) n) = takS t l n := by
  apply list8 (chS_length _) (takS_length _ _ _)
  intro k hk
  rw [chS_at _ k hk, insF_top hl hok n n0 hnot, takS_at _ _ _ k hk, Bool.eq_iff_iff, decide_eq_true_iff, insF_mem, metL_iff, Bool.or_eq_true, decide_eq_true_iff]
  exact Or.comm
theorem insF_range {key : List Int} {s t : Int} {l : List Bool} (hl : l.length = 8) (hok : OkC key s t l) (n : Int) (n0 : 0 ≤ n) (n1 : n < 1073741824) (hnot : n ∉ metL t l 8) : ∀ x ∈ insF (metL t l 8) n, -8 ≤ x ∧ x ≤ 1073741824 ∧ x < chT (insF (metL t l 8) n) := by
  intro x hx
  rw [insF_top hl hok n n0 hnot]
  have h2 := takT_le t n
  have h3 := hok.t0
  have h4 := hok.t1
  rcases (insF_mem _ _ _).1 hx with h | h
  · have := metL_range x h
    omega
  · omega
end Go.Proofs.YtakgfdbjgeopdaaGreatDoor
