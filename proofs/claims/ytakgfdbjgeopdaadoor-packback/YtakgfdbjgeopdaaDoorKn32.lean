/-
  The walks of Check and New.
-/
import Derived.Laws.CopyOwn
import Derived.Test.YtakgfdbjgeopdaaDoorKn30
import Derived.Test.YtakgfdbjgeopdaaDoorKn31
import Derived.Test.YtakgfdbjgeopdaaDoorKn26
namespace Go.Proofs.YtakgfdbjgeopdaaDoor
open Go.RowKit
set_option linter.unusedVariables false

theorem counted_any (n : Int) (w : World) :
    Calls Tryd.prog 65 #[.int .i64 n] w fun e w' => e = .returned (.bool (decide (0 ≤ n ∧ n ≤ 1073741824))) ∧ w' = w := by
  by_cases h0 : 0 ≤ n
  · by_cases h1 : n ≤ 1073741824
    · rw [decide_eq_true ⟨h0, h1⟩]
      go_enter Tryd.func65, Tryd.ntmps65
      go_wp2
      go_ret
      exact ⟨ret_bool (by simp), rfl⟩
    · rw [decide_eq_false (by omega)]
      go_enter Tryd.func65, Tryd.ntmps65
      go_wp2
      go_ret
      exact ⟨ret_bool (by simp), rfl⟩
  · rw [decide_eq_false (by omega)]
    go_enter Tryd.func65, Tryd.ntmps65
    go_wp2
    go_ret
    exact ⟨ret_bool (by simp), rfl⟩

theorem okC_of {key : List Int} {s t : Int} {l : List Bool} (h1 : key.length = 32) (h2 : 0 ≤ s ∧ s ≤ 1073741824) (h3 : 0 ≤ t ∧ t ≤ 1073741824) (h4 : mayB t l = true) : OkC key s t l :=
  ⟨h1, h2.1, h2.2, h3.1, h3.2, ((mayB_iff t l).1 h4).1, ((mayB_iff t l).1 h4).2⟩
theorem checkE_ok {key : List Int} {s t : Int} {l : List Bool} (h : OkC key s t l) : checkE key s t l = 0 := if_pos h
theorem checkE_no {key : List Int} {s t : Int} {l : List Bool} (h : ¬ OkC key s t l) : checkE key s t l = 5 := if_neg h

set_option maxHeartbeats 1000000 in
set_option maxRecDepth 100000 in
theorem check_any (vk : Value) (key : List Int) (s t : Int) (l : List Bool) (w : World) (hk : Sl w vk key) (hl : l.length = 8) :
    Calls Tryd.prog 51 #[.agg (chA vk s t l)] w fun e w' => e = .returned (.int .i64 (checkE key s t l)) ∧ Below w.heap.size w w' := by
  obtain ⟨ak, ck, rfl⟩ := hk.shape
  have hkl := hk.len
  have bb : Below w.heap.size w (w.alloc (.cells (chA (.slice ak key.length ck) s t l) 50)) := (Below.refl _ _).alloc (Nat.le_refl _) _
  obtain ⟨b0, b1, b2, b3, b4, b5, b6, b7, rfl⟩ := eight l hl
  by_cases h1 : key.length = 32
  · have HK : Hid (key.length = 32) := h1
    obtain ⟨E, hE⟩ : ∃ E, checkE key s t [b0, b1, b2, b3, b4, b5, b6, b7] = E := ⟨_, rfl⟩
    have HE : Hid (checkE key s t [b0, b1, b2, b3, b4, b5, b6, b7] = E) := hE
    rw [hE]
    clear hE
    have bb0 := bb
    simp only [chA, List.map] at bb ⊢
    rw [h1] at bb bb0 hk ⊢
    have rr := heap_alloc_new w (.cells (chA (.slice ak 32 ck) s t [b0, b1, b2, b3, b4, b5, b6, b7]) 50)
    clear h1
    go_enter Tryd.func51, Tryd.ntmps51
    go_wp2_with fail
    refine (counted_any s _).mono ?_
    rintro e w1 ⟨rfl, rfl⟩
    by_cases h2 : 0 ≤ s ∧ s ≤ 1073741824
    · rw [decide_eq_true h2]
      go_wp2_with fail
      refine (counted_any t _).mono ?_
      rintro e w1 ⟨rfl, rfl⟩
      by_cases h3 : 0 ≤ t ∧ t ≤ 1073741824
      · rw [decide_eq_true h3]
        go_wp2_with fail
        refine (windowOf_any (.slice ak 32 ck) s t [b0, b1, b2, b3, b4, b5, b6, b7] _ rfl).mono ?_
        rintro e w2 ⟨rfl, c2⟩
        have d2 : Below w.heap.size w w2 := bb0.trans (c2.mono (by simp))
        go_wp2_with fail
        refine (mayBe_any t [b0, b1, b2, b3, b4, b5, b6, b7] w2 rfl h3.1 h3.2).mono ?_
        rintro e w3 ⟨rfl, c3⟩
        have d3 : Below w.heap.size w w3 := d2.trans (c3.mono d2.size)
        cases h4 : mayB t [b0, b1, b2, b3, b4, b5, b6, b7] with
        | true =>
          have H5 : Hid (0 = E) := HE.out ▸ (checkE_ok (okC_of HK.out h2 h3 h4)).symm
          go_wp2
          go_ret
          exact ⟨ret_num H5.out, d3⟩
        | false =>
          have H5 : Hid (5 = E) := HE.out ▸ (checkE_no (fun h => by
            have := (mayB_iff t [b0, b1, b2, b3, b4, b5, b6, b7]).2 ⟨h.low, h.top⟩
            rw [h4] at this
            cases this)).symm
          go_wp2
          go_ret
          exact ⟨ret_num H5.out, d3⟩
      · rw [decide_eq_false h3]
        have H5 : Hid (5 = E) := HE.out ▸ (checkE_no (fun h => h3 ⟨h.t0, h.t1⟩)).symm
        go_wp2
        go_ret
        exact ⟨ret_num H5.out, bb⟩
    · rw [decide_eq_false h2]
      have H5 : Hid (5 = E) := HE.out ▸ (checkE_no (fun h => h2 ⟨h.s0, h.s1⟩)).symm
      go_wp2
      go_ret
      exact ⟨ret_num H5.out, bb⟩
  · have HE : Hid (checkE key s t [b0, b1, b2, b3, b4, b5, b6, b7] = 5) := checkE_no fun h => h1 h.key
    have h1' : ¬ (key.length : Int) = 32 := by omega
    simp only [chA, List.map] at bb ⊢
    go_enter Tryd.func51, Tryd.ntmps51
    go_wp2
    go_ret
    exact ⟨ret_num HE.out.symm, bb⟩

theorem chInfo {k : Value} {s t : Int} {l : List Bool} (hl : l.length = 8) : (Tryd.prog.info? 50).map (·.size) = some (chA k s t l).size := by rw [chA_size, hl]; kernel_rfl
theorem chA_one {w : World} {k : Value} {key : List Int} (hk : Sl w k key) (s t : Int) (l : List Bool) : (chA k s t l).all (·.oneCell') = true := by
  obtain ⟨a, c, rfl⟩ := hk.shape
  simp [chA, Value.oneCell']

set_option maxHeartbeats 1000000 in
set_option maxRecDepth 100000 in
theorem new_any (vk : Value) (key : List Int) (w : World) (hk : Sl w vk key) :
    Calls Tryd.prog 55 #[vk] w fun e w' => ∃ v', e = .returned (.tuple #[.agg (chA v' 0 0 noB), .int .i64 (if key.length = 32 then 0 else 1)]) ∧ w'.ownsRow 0 5 1 v' (if key.length = 32 then key else []).length ((if key.length = 32 then key else []).map (Value.int .u8)) ∧ Below w.heap.size w w' := by
  obtain ⟨ak, ck, rfl⟩ := hk.shape
  have hkl := hk.len
  by_cases h1 : key.length = 32
  · rw [if_pos h1, if_pos h1]
    rw [h1] at hk ⊢
    have bb : Below w.heap.size w (w.alloc (.cells (chA (.slice none 0 0) 0 0 noB) 50)) := (Below.refl _ _).alloc (Nat.le_refl _) _
    have rr := heap_alloc_new w (.cells (chA (.slice none 0 0) 0 0 noB) 50)
    have hz : (w.alloc (.cells (chA (.slice none 0 0) 0 0 noB) 50)).heap.size = w.heap.size + 1 := by simp
    go_enter Tryd.func55, Tryd.ntmps55
    go_wp2_with fail
    refine (clone_any _ key _ (hk.below bb)).mono ?_
    rintro e w1 ⟨v1, rfl, o1, c1⟩
    rw [hz] at o1
    have s1 := Sl.ofOwns o1 hk.len hk.byte
    have r1 := (c1.block w.heap.size (by rw [hz]; omega)).trans rr
    have d1 : Below w.heap.size w w1 := bb.trans (c1.mono (by rw [hz]; omega))
    have hi := chInfo (k := v1) (s := 0) (t := 0) noB_length
    have ho := chA_one s1 0 0 noB
    clear c1 rr bb hz
    have hold : (chA (.slice none 0 0) 0 0 noB).size = (chA v1 0 0 noB).size := by rw [chA_size, chA_size]
    obtain ⟨a1, c1, hv1⟩ := s1.shape
    rw [h1] at hv1
    subst hv1
    go_wp2_with (refine wpList_store_row rfl 50 (.tmp 2) (.tmp 10) rfl w.heap.size (chA (.slice a1 32 c1) 0 0 noB) rfl rfl 50 _ r1 hi hold ho ?_)
    have r2 := setRow_heap w1 w.heap.size _ (chA (.slice a1 32 c1) 0 0 noB) 50 _ r1
    have d3 : Below w.heap.size w (w1.setRow w.heap.size (chA (.slice a1 32 c1) 0 0 noB)) := below_setRow d1 (Nat.le_refl _) _
    have s2 : (w1.setRow w.heap.size (chA (.slice a1 32 c1) 0 0 noB)).ownsRow 0 5 1 (.slice a1 32 c1) key.length (key.map (Value.int .u8)) :=
      owns_lower (owns_keepH o1 fun k hk' => setRow_other _ _ _ _ (by have := (o1.lt k hk').1; omega)) (Nat.zero_le _)
    exact bodyPost_ret (results_row2 rfl _ _ w.heap.size 50 _ (0, 0) _ rfl r2 Tryd.underlying50 rfl hi) rfl ⟨.slice a1 32 c1, rfl, h1 ▸ s2, d3⟩
  · rw [if_neg h1, if_neg h1]
    have h1' : ¬ (key.length : Int) = 32 := by omega
    go_enter Tryd.func55, Tryd.ntmps55
    go_wp2
    exact bodyPost_ret (results_row2 rfl _ _ w.heap.size 50 (chA (.slice none 0 0) 0 0 noB) (0, 0) _ rfl (heap_alloc_new _ _) Tryd.underlying50 rfl (chInfo noB_length)) rfl ⟨.slice none 0 0, rfl, World.ownsRow_nil _ _ _ _, (Below.refl _ _).alloc (Nat.le_refl _) _⟩
end Go.Proofs.YtakgfdbjgeopdaaDoor
/-
  The walks of Send's and Take's records.
-/
namespace Go.Proofs.YtakgfdbjgeopdaaDoor
open Go.RowKit
set_option linter.unusedVariables false

/-- what the walks know of a channel's box behind a call -/
structure Bx (w W : World) (k : Value) (s t : Int) (l : List Bool) : Prop where
  row : W.heap[w.heap.size]? = some (.cells (chA k s t l) 50 (0, 0))
  bel : Below w.heap.size w W
theorem Bx.new (w : World) (k : Value) (s t : Int) (l : List Bool) : Bx w (w.alloc (.cells (chA k s t l) 50)) k s t l := ⟨heap_alloc_new _ _, (Below.refl _ _).alloc (Nat.le_refl _) _⟩
theorem Bx.lt {w W : World} {k : Value} {s t : Int} {l : List Bool} (h : Bx w W k s t l) : w.heap.size < W.heap.size := (Array.getElem?_eq_some_iff.1 h.row).1
theorem Bx.step {w W W' : World} {k : Value} {s t : Int} {l : List Bool} (h : Bx w W k s t l) (hb : Below W.heap.size W W') : Bx w W' k s t l :=
  ⟨(hb.block _ h.lt).trans h.row, h.bel.trans (hb.mono h.bel.size)⟩
theorem Bx.c0 {w W : World} {k : Value} {s t : Int} {l : List Bool} (h : Bx w W k s t l) : W.cell? ⟨w.heap.size, 0, none⟩ = some k := (cell_of_row _ _ 0 _ _ _ h.row).trans (chA_key k s t l)
theorem Bx.c1 {w W : World} {k : Value} {s t : Int} {l : List Bool} (h : Bx w W k s t l) : W.cell? ⟨w.heap.size, 1, none⟩ = some (.int .i64 s) := (cell_of_row _ _ 1 _ _ _ h.row).trans (chA_sent k s t l)
theorem Bx.c2 {w W : World} {k : Value} {s t : Int} {l : List Bool} (h : Bx w W k s t l) : W.cell? ⟨w.heap.size, 2, none⟩ = some (.int .i64 t) := (cell_of_row _ _ 2 _ _ _ h.row).trans (chA_top k s t l)

def sendR (key : List Int) (s t : Int) (l : List Bool) (p : List Int) : List Int := if sendE key s t l p = 0 then recL key s p else []

set_option maxHeartbeats 2000000 in
set_option maxRecDepth 100000 in
theorem sent_any (vk : Value) (key : List Int) (s t : Int) (l : List Bool) (vp : Value) (p : List Int) (w : World) (hk : Sl w vk key) (hl : l.length = 8) (hp : Sl w vp p) (ht : QTab w) :
    Calls Tryd.prog 36 #[.agg (chA vk s t l), vp] w fun e w' => ∃ v', e = .returned (.tuple #[v', .int .i64 (sendE key s t l p)]) ∧ w'.ownsRow 0 5 1 v' (sendR key s t l p).length ((sendR key s t l p).map (Value.int .u8)) ∧ Below w.heap.size w w' := by
  have hpos := ht.pos
  have bx := Bx.new w vk s t l
  obtain ⟨ap, cp, rfl⟩ := hp.shape
  have hpl := hp.len
  have hi := chInfo (k := vk) (s := s) (t := t) hl
  by_cases hok : OkC key s t l
  · have HC : Hid (checkE key s t l = 0) := checkE_ok hok
    go_enter Tryd.func36, Tryd.ntmps36
    go_wp2_with (refine wpList_load_row rfl 50 _ rfl w.heap.size rfl 50 _ (0, 0) _ bx.row Tryd.underlying50 rfl hi ?_)
    refine (check_any vk key s t l _ (hk.below bx.bel) hl).mono ?_
    rintro e w1 ⟨rfl, b1⟩
    replace bx := bx.step b1
    rw [HC.out]
    clear b1
    by_cases h2 : 2000 < p.length
    · have HE : Hid (sendE key s t l p = 1) := by unfold Hid sendE; rw [if_neg (fun h => h hok), if_pos h2]
      have HR : Hid (sendR key s t l p = []) := by unfold Hid sendR; rw [HE.out]; rfl
      have h2' : (2000 : Int) < (p.length : Int) := by omega
      go_wp2
      go_ret2
      exact ⟨.slice none 0 0, by rw [HE.out]; rfl, by rw [HR.out]; exact World.ownsRow_nil _ _ _ _, bx.bel⟩
    · have h2' : ¬ (2000 : Int) < (p.length : Int) := by omega
      have c1 := bx.c1
      by_cases h3 : s = 1073741824
      · have HE : Hid (sendE key s t l p = 8) := by unfold Hid sendE; rw [if_neg (fun h => h hok), if_neg h2, if_pos h3]
        have HR : Hid (sendR key s t l p = []) := by unfold Hid sendR; rw [HE.out]; rfl
        go_wp2
        go_ret2
        exact ⟨.slice none 0 0, by rw [HE.out]; rfl, by rw [HR.out]; exact World.ownsRow_nil _ _ _ _, bx.bel⟩
      · have HE : Hid (sendE key s t l p = 0) := by unfold Hid sendE; rw [if_neg (fun h => h hok), if_neg h2, if_neg h3]
        have HR : Hid (sendR key s t l p = recL key s p) := by unfold Hid sendR; rw [HE.out]; rfl
        have s0 := hok.s0
        have s1 : s < 1073741824 := by have := hok.s1; omega
        have HKL : Hid (key.length = 32) := hok.key
        go_wp2_with fail
        have bel1 := bx.bel
        refine (headOf_any s w1 s0 s1).mono ?_
        rintro e w2 ⟨vh, rfl, oh, b2⟩
        replace bx := bx.step b2
        clear c1
        have c0 := bx.c0
        have sh : Sl w2 vh (headL s) := Sl.ofOwns oh (by rw [headL_length]; omega) (headL_byte s)
        have hk2 := hk.below bx.bel
        have hp2 := hp.below bx.bel
        have ht2 := ht.below hpos bx.bel
        have hpos2 : 2 < w2.heap.size := by have := bx.lt; omega
        have HX : Hid (recL key s p = headL s ++ sealL key (nonceL (headL s)) (headL s) p) := rfl
        have hhl := headL_length s
        have HF : Hid (fits key (nonceL (headL s)) (headL s) = true) := fits_of hok.key (nonceL_length rfl) (by rw [headL_length]; omega)
        have h2n : p.length ≤ 2000 := by omega
        have bel2 := bx.bel
        generalize headL s = H at HX hhl HF sh oh
        have hd : Below w2.heap.size w2 w2.drew := (Below.refl _ _).drew
        have hlt := oh.lt
        have hzz : w.heap.size < w2.drew.heap.size := bx.lt
        clear hk hp ht hok
        go_wp2_with fail
        go_region_with (first
          | (go_at_call 54; refine (nonceOf_any _ H _ (sh.below hd) hhl).mono ?_; rintro e w3 ⟨vn, rfl, sn, b3⟩; have c3 := (b3.cell (p := ⟨w.heap.size, 0, none⟩) hzz).trans c0)
          | (go_at_call 53; refine (seal_ok vk vn _ _ key (nonceL H) H p _ ((hk2.below hd).below b3) sn ((sh.below hd).below b3) ((hp2.below hd).below b3) HF.out h2n ((ht2.below hpos2 hd).below hpos2 b3)).mono ?_; rintro e w4 ⟨vx, rfl, sx, b4⟩))
        all_goals
          have o4 := owns_below (owns_below oh.drew b3) b4
          have hl4 := o4.lt
          have d3 : Below w.heap.size w w3 := bel2.trans ((hd.trans b3).mono bel2.size)
          have d4 : Below w.heap.size w w4 := d3.trans (b4.mono d3.size)
          have hz4 : w1.heap.size ≤ w4.heap.size := Nat.le_trans b2.size (Nat.le_trans hd.size (Nat.le_trans b3.size b4.size))
          have hz1 : w.heap.size ≤ w1.heap.size := bel1.size
          have hxl := sealL_length key (nonceL H) H p
          clear bx oh sh hk2 hp2 ht2 hd c0 c3 sn b3 b4 hzz b2 bel2
          generalize sealL key (nonceL H) H p = X at HX hxl sx
          go_wp2_with (at_builtin; refine wpList_append_sl _ rfl _ _ 22 rfl w1.heap.size 5 Tryd.underlying22 info5 _ _ rfl rfl H X o4 sx (by omega) hz4 ?_)
          intro v5 w5 ho5 hg5
          have b5 : Below w.heap.size w w5 := d4.grown hg5 (by omega) (fun k hk => Nat.le_trans hz1 (hl4 k hk).1)
          have HO5 : Hid (w5.ownsRow w1.heap.size 5 1 v5 (H ++ X).length ((H ++ X).map (Value.int .u8))) := by
            unfold Hid
            simpa [hhl, hxl] using ho5
          clear ho5 hg5 o4
          go_wp2
          go_ret2
          refine ⟨v5, by rw [HE.out]; rfl, ?_, b5⟩
          rw [HR.out, HX.out]
          exact owns_lower HO5.out (Nat.zero_le _)
  · have HC : Hid (checkE key s t l = 5) := checkE_no hok
    have HE : Hid (sendE key s t l p = 5) := if_pos hok
    have HR : Hid (sendR key s t l p = []) := by unfold Hid sendR; rw [HE.out]; rfl
    go_enter Tryd.func36, Tryd.ntmps36
    go_wp2_with (refine wpList_load_row rfl 50 _ rfl w.heap.size rfl 50 _ (0, 0) _ bx.row Tryd.underlying50 rfl hi ?_)
    refine (check_any vk key s t l _ (hk.below bx.bel) hl).mono ?_
    rintro e w1 ⟨rfl, b1⟩
    replace bx := bx.step b1
    rw [HC.out]
    go_wp2
    go_ret2
    exact ⟨.slice none 0 0, by rw [HE.out]; rfl, by rw [HR.out]; exact World.ownsRow_nil _ _ _ _, bx.bel⟩
end Go.Proofs.YtakgfdbjgeopdaaDoor
