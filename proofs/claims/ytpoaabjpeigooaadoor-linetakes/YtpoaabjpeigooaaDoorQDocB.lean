/-
  The walks of the document's own judgement of a channel, and of its new one.
-/
import Derived.Test.YtpoaabjpeigooaaDoorQDocA
import Derived.Test.YtpoaabjpeigooaaDoorQSeen
import Derived.Test.YtpoaabjpeigooaaDoorQRefC
namespace Go.Proofs.YtpoaabjpeigooaaDoor
open Go.RowKit
set_option linter.unusedVariables false

theorem Zl.ofOwns {w : World} {base : Nat} {v : Value} {l : List Int} (h : w.ownsRow base 3 1 v l.length (l.map (Value.int .i64))) (hl : l.length ≤ 140737488351232) (hb : ∀ x ∈ l, -9223372036854775808 ≤ x ∧ x ≤ 9223372036854775807) : Zl w v l := by
  refine ⟨?_, hl, hb⟩
  rcases h.2 with ⟨rfl, h0⟩ | ⟨g, cap, cur, rfl, _, hg, hn, _, hcs, ht⟩
  · exact ⟨none, 0, by rw [h0], by omega, .inl (List.eq_nil_of_length_eq_zero h0)⟩
  · refine ⟨_, cap, rfl, hn, .inr ⟨g, 0, rfl, (Array.getElem?_eq_some_iff.1 hg).1, fun i hi => ?_⟩⟩
    have hc := h.cells (g := g) rfl i (.int .i64 (l.getD i 0)) (by simp [List.getElem?_eq_getElem hi, List.getD])
    have hadd : (⟨g, 0, none⟩ : Addr).add i = ⟨g, i, none⟩ := by unfold Addr.add; split <;> simp_all
    rw [hadd] at hc
    simpa using hc
theorem in_anyL (n lo hi : Int) (w : World) :
    Calls Tryd.prog 39 #[.int .i64 n, .int .i64 lo, .int .i64 hi] w fun e w' => e = .returned (.bool (decide (lo ≤ n ∧ n ≤ hi))) ∧ w' = w := by
  go_enter Tryd.func39, Tryd.ntmps39
  by_cases h1 : lo ≤ n
  · by_cases h2 : n ≤ hi
    · go_wp2
      go_ret
      exact ⟨ret_bool (decide_eq_true ⟨h1, h2⟩).symm, rfl⟩
    · go_wp2
      go_ret
      exact ⟨ret_bool (decide_eq_false (by omega)).symm, rfl⟩
  · go_wp2
    go_ret
    exact ⟨ret_bool (by rw [decide_eq_false (show ¬ lo ≤ n by omega), Bool.false_and]), rfl⟩
theorem okC_ofD {key : List Int} {s t : Int} {l : List Bool} (h1 : key.length = 32) (h2 : 0 ≤ s ∧ s ≤ 1073741824) (h3 : 0 ≤ t ∧ t ≤ 1073741824) (h4 : mayB t l = true) : OkC key s t l :=
  ⟨h1, h2.1, h2.2, h3.1, h3.2, ((mayB_iff t l).1 h4).1, ((mayB_iff t l).1 h4).2⟩
theorem checkE_okD {key : List Int} {s t : Int} {l : List Bool} (h : OkC key s t l) : checkE key s t l = 0 := if_pos h
theorem checkE_noD {key : List Int} {s t : Int} {l : List Bool} (h : ¬ OkC key s t l) : checkE key s t l = 5 := if_neg h
theorem chA_lit8 (k : Value) (s t : Int) (b0 b1 b2 b3 b4 b5 b6 b7 : Bool) : chA k s t [b0, b1, b2, b3, b4, b5, b6, b7] = #[k, .int .i64 s, .int .i64 t, .bool b0, .bool b1, .bool b2, .bool b3, .bool b4, .bool b5, .bool b6, .bool b7] := rfl
/-- a channel of what was met -/
theorem chan_met (vk : Value) (key : List Int) (s : Int) (v : Value) (t : Int) (l : List Bool) (w : World) (hk : Sl w vk key) (lk : key.length ≤ 100000) (hL : w.ownsRow 0 3 1 v (metL t l 8).length ((metL t l 8).map (Value.int .i64))) (t0 : 0 ≤ t) (t1 : t ≤ 1073741824) :
    Calls Tryd.prog 29 #[vk, .int .i64 s, v] w fun e w' => ∃ v', e = .returned (.agg (chA v' s (chT (metL t l 8)) (chS (metL t l 8)))) ∧ w'.ownsRow 0 5 1 v' key.length (key.map (Value.int .u8)) ∧ Below w.heap.size w w' := by
  have hml := metL_length t l 8
  refine chan_any vk key s v (metL t l 8) w hk lk (Zl.ofOwns hL (by omega) fun x hx => by have := metL_range x hx; omega) (fun x hx => ?_) (by omega)
  have h1 := metL_range x hx
  have h2 := metL_lastmax t l x hx
  omega

set_option maxHeartbeats 4000000 in
set_option maxRecDepth 100000 in
theorem chfault_any (vk : Value) (key : List Int) (s t : Int) (l : List Bool) (w : World) (hk : Sl w vk key) (hl : l.length = 8) :
    Calls Tryd.prog 24 #[.agg (chA vk s t l)] w fun e w' => e = .returned (.int .i64 (checkE key s t l)) ∧ Below w.heap.size w w' := by
  obtain ⟨ak, ck, rfl⟩ := hk.shape
  have hkl := hk.len
  have bb : Below w.heap.size w (w.alloc (.cells (chA (.slice ak key.length ck) s t l) 25)) := (Below.refl _ _).alloc (Nat.le_refl _) _
  have HM := may_again t l hl
  have HC := @chS_met t l hl
  obtain ⟨x0, x1, x2, x3, x4, x5, x6, x7, rfl⟩ := eight l hl
  by_cases h1 : key.length = 32
  · have HK : Hid (key.length = 32) := h1
    obtain ⟨E, hE⟩ : ∃ E, checkE key s t [x0, x1, x2, x3, x4, x5, x6, x7] = E := ⟨_, rfl⟩
    have HE : Hid (checkE key s t [x0, x1, x2, x3, x4, x5, x6, x7] = E) := hE
    rw [hE]
    clear hE
    have bb0 := bb
    have dd := Dc.made w (.slice ak key.length ck) s t [x0, x1, x2, x3, x4, x5, x6, x7]
    simp only [chA, List.map] at bb ⊢
    rw [h1] at bb bb0 hk dd ⊢
    clear h1
    go_enter Tryd.func24, Tryd.ntmps24
    go_wp2_with fail
    refine (in_anyL s 0 1073741824 _).mono ?_
    rintro e w1 ⟨rfl, rfl⟩
    by_cases h2 : 0 ≤ s ∧ s ≤ 1073741824
    · rw [decide_eq_true h2]
      go_wp2_with fail
      refine (in_anyL t 0 1073741824 _).mono ?_
      rintro e w1 ⟨rfl, rfl⟩
      by_cases h3 : 0 ≤ t ∧ t ≤ 1073741824
      · rw [decide_eq_true h3]
        go_wp2_with fail
        refine (met_any (.slice ak 32 ck) s t [x0, x1, x2, x3, x4, x5, x6, x7] _ rfl h3.1 h3.2).mono ?_
        rintro e w2 ⟨vm, rfl, om, c2⟩
        have d2 : Below w.heap.size w w2 := bb0.trans (c2.mono (by simp))
        replace dd := dd.below c2
        replace om := owns_lower om (Nat.zero_le _)
        have k0 := dd.c0
        have k1 := dd.c1
        clear c2 bb bb0
        have hml := metL_length t [x0, x1, x2, x3, x4, x5, x6, x7] 8
        go_wp2_with fail
        refine (chan_met (.slice ak 32 ck) key s vm t [x0, x1, x2, x3, x4, x5, x6, x7] w2 (hk.below d2) (by have := HK.out; omega) om h3.1 h3.2).mono ?_
        rintro e w3 ⟨v3, rfl, o3, c3⟩
        have d3 : Below w.heap.size w w3 := d2.trans (c3.mono d2.size)
        replace dd := dd.below c3
        have om3 : w3.ownsRow 0 3 1 vm (metL t [x0, x1, x2, x3, x4, x5, x6, x7] 8).length ((metL t [x0, x1, x2, x3, x4, x5, x6, x7] 8).map (Value.int .i64)) := owns_keepB om fun k hk' => c3.block k (om.lt k hk').2
        clear om c3 k0 k1
        obtain ⟨a3, n3, hv3⟩ : ∃ a c, v3 = .slice a key.length c := by
          rcases o3.2 with ⟨rfl, h0⟩ | ⟨g, cap, cur, rfl, _⟩
          · exact ⟨none, 0, by rw [h0]⟩
          · exact ⟨_, cap, rfl⟩
        rw [HK.out] at hv3
        subst hv3
        have zm := Zl.ofOwns om3 (by omega) (fun x hx => by have := metL_range x hx; omega)
        have hmay : mayB t [x0, x1, x2, x3, x4, x5, x6, x7] = true ↔ ((metL t [x0, x1, x2, x3, x4, x5, x6, x7] 8 = [] ∨ 0 ≤ (metL t [x0, x1, x2, x3, x4, x5, x6, x7] 8).getD 0 0) ∧ chT (metL t [x0, x1, x2, x3, x4, x5, x6, x7] 8) = t) := HM
        have hmet : chT (metL t [x0, x1, x2, x3, x4, x5, x6, x7] 8) = t → chS (metL t [x0, x1, x2, x3, x4, x5, x6, x7] 8) = [x0, x1, x2, x3, x4, x5, x6, x7] := HC
        have hrg : ∀ x ∈ metL t [x0, x1, x2, x3, x4, x5, x6, x7] 8, t - 8 ≤ x ∧ x < t := fun x hx => metL_range x hx
        generalize metL t [x0, x1, x2, x3, x4, x5, x6, x7] 8 = L at zm hmay hmet hml hrg ⊢
        have HNO : Hid (¬ ((L = [] ∨ 0 ≤ L.getD 0 0) ∧ chT L = t) → 5 = E) := fun hno => HE.out ▸ (checkE_noD (fun h => hno (hmay.1 ((mayB_iff t [x0, x1, x2, x3, x4, x5, x6, x7]).2 ⟨h.low, h.top⟩)))).symm
        have HYES : Hid ((L = [] ∨ 0 ≤ L.getD 0 0) ∧ chT L = t → 0 = E) := fun hy => HE.out ▸ (checkE_okD (okC_ofD HK.out h2 h3 (hmay.2 hy))).symm
        have hSl := chS_length L
        obtain ⟨am, cm, hvm, hcm⟩ := zm.shape
        subst hvm
        obtain ⟨j0, j1, j2, j3, j4, j5, j6, j7, j8, j9, j10⟩ := chA_cells dd.row
        have hbox := dd.lt
        have hTr : -8 ≤ chT L ∧ chT L ≤ 1073741825 := by
          unfold chT
          rcases hgl : L.getLast? with _ | x
          · simp
          · have := hrg x (List.mem_of_getLast? hgl)
            simp
            omega
        clear HM HC hmay hrg dd o3
        by_cases hT : chT L = t
        · rw [hT, hmet hT, chA_lit8]
          have hneq := sn_neq [x0, x1, x2, x3, x4, x5, x6, x7] [x0, x1, x2, x3, x4, x5, x6, x7] rfl rfl
          rw [decide_eq_true rfl] at hneq
          simp only [snA, List.map, Bool.not_true] at hneq
          by_cases hnil : L.length = 0
          · have H0 : Hid (0 = E) := HYES.out ⟨.inl (List.eq_nil_of_length_eq_zero hnil), hT⟩
            rw [hnil]
            clear hmet hT HNO HYES
            go_wp2
            go_ret
            exact ⟨ret_num H0.out, d3.alloc d3.size _⟩
          · obtain ⟨zb, zo, haz, hzb, hz, _, _⟩ := zm.spot (Below.refl _ _) 0 (by omega)
            subst haz
            have hl1 : (0 : Int) < (L.length : Int) := by omega
            rw [Nat.add_zero] at hz
            by_cases hneg : L.getD 0 0 < 0
            · have H5 : Hid (5 = E) := HNO.out (fun h => by
                rcases h.1 with h | h
                · rw [h] at hnil; simp at hnil
                · omega)
              generalize L.getD 0 0 = f0 at hz hneg
              clear hmet hT HNO HYES hneq
              go_wp2
              go_ret
              exact ⟨ret_num H5.out, d3.alloc d3.size _⟩
            · have H0 : Hid (0 = E) := HYES.out ⟨.inr (by omega), hT⟩
              generalize L.getD 0 0 = f0 at hz hneg
              clear hmet hT HNO HYES
              go_wp2
              go_ret
              exact ⟨ret_num H0.out, d3.alloc d3.size _⟩
        · have H5 : Hid (5 = E) := HNO.out (fun h => hT h.2)
          generalize chS L = S at hSl
          obtain ⟨y0, y1, y2, y3, y4, y5, y6, y7, rfl⟩ := eight S hSl
          rw [chA_lit8]
          generalize chT L = T at hT hTr
          by_cases hnil : L.length = 0
          · rw [hnil]
            clear hmet HNO HYES
            go_wp2
            go_ret
            exact ⟨ret_num H5.out, d3.alloc d3.size _⟩
          · obtain ⟨zb, zo, haz, hzb, hz, _, _⟩ := zm.spot (Below.refl _ _) 0 (by omega)
            subst haz
            have hl1 : (0 : Int) < (L.length : Int) := by omega
            rw [Nat.add_zero] at hz
            by_cases hneg : L.getD 0 0 < 0
            · generalize L.getD 0 0 = f0 at hz hneg
              clear hmet HNO HYES
              go_wp2
              go_ret
              exact ⟨ret_num H5.out, d3.alloc d3.size _⟩
            · generalize L.getD 0 0 = f0 at hz hneg
              clear hmet HNO HYES
              go_wp2
              go_ret
              exact ⟨ret_num H5.out, d3.alloc d3.size _⟩
      · rw [decide_eq_false h3]
        have H5 : Hid (5 = E) := HE.out ▸ (checkE_noD (fun h => h3 ⟨h.t0, h.t1⟩)).symm
        go_wp2
        go_ret
        exact ⟨ret_num H5.out, bb⟩
    · rw [decide_eq_false h2]
      have H5 : Hid (5 = E) := HE.out ▸ (checkE_noD (fun h => h2 ⟨h.s0, h.s1⟩)).symm
      go_wp2
      go_ret
      exact ⟨ret_num H5.out, bb⟩
  · have HE : Hid (checkE key s t [x0, x1, x2, x3, x4, x5, x6, x7] = 5) := checkE_noD fun h => h1 h.key
    have h1' : ¬ (key.length : Int) = 32 := by omega
    simp only [chA, List.map] at bb ⊢
    go_enter Tryd.func24, Tryd.ntmps24
    go_wp2
    go_ret
    exact ⟨ret_num HE.out.symm, bb⟩
end Go.Proofs.YtpoaabjpeigooaaDoor
/-
  The walks of the laws' own copy of a channel and comparison of two, and of the document's new channel.
-/
namespace Go.Proofs.YtpoaabjpeigooaaDoor
open Go.RowKit
set_option linter.unusedVariables false

/-- a variable that holds a channel is made -/
theorem Dc.var (W : World) (k : Value) (s t : Int) (l : List Bool) : Dc ((W.alloc (.cells #[.slice none 0 0, .int .i64 0, .int .i64 0, .bool false, .bool false, .bool false, .bool false, .bool false, .bool false, .bool false, .bool false] 25)).setRow W.heap.size (chA k s t l)) W.heap.size k s t l ∧ Below W.heap.size W ((W.alloc (.cells #[.slice none 0 0, .int .i64 0, .int .i64 0, .bool false, .bool false, .bool false, .bool false, .bool false, .bool false, .bool false, .bool false] 25)).setRow W.heap.size (chA k s t l)) :=
  ⟨⟨setRow_heap _ _ _ _ _ _ (Dc.made W (.slice none 0 0) 0 0 noB).row⟩, below_setRow ((Below.refl _ _).alloc (Nat.le_refl _) _) (Nat.le_refl _) _⟩
theorem chA_slice {w : World} {k : Value} {key : List Int} (hk : Sl w k key) (s t : Int) (l : List Bool) : (chA k s t l).all (·.oneCell') = true := by
  obtain ⟨a, c, rfl⟩ := hk.shape
  simp [chA, Value.oneCell']

set_option maxHeartbeats 1000000 in
set_option maxRecDepth 100000 in
theorem channels_any (vk : Value) (key : List Int) (s t : Int) (l : List Bool) (w : World) (hk : Sl w vk key) (hl : l.length = 8) :
    Calls Tryd.prog 7 #[.agg (chA vk s t l)] w fun e w' => ∃ v', e = .returned (.agg (chA v' s t l)) ∧ w'.ownsRow 0 5 1 v' key.length (key.map (Value.int .u8)) ∧ Below w.heap.size w w' := by
  have hz : (w.alloc (.cells (chA vk s t l) 25)).heap.size = w.heap.size + 1 := by simp
  have bA : Below (w.alloc (.cells (chA vk s t l) 25)).heap.size (w.alloc (.cells (chA vk s t l) 25)) ((w.alloc (.cells (chA vk s t l) 25)).alloc (.cells (chA (.slice none 0 0) 0 0 noB) 25)) := (Below.refl _ _).alloc (Nat.le_refl _) _
  have bb : Below w.heap.size w ((w.alloc (.cells (chA vk s t l) 25)).alloc (.cells (chA (.slice none 0 0) 0 0 noB) 25)) := ((Below.refl _ _).alloc (Nat.le_refl _) _).trans (bA.mono (by rw [hz]; omega))
  have dC := (Dc.made w vk s t l).below bA
  have dR := Dc.made (w.alloc (.cells (chA vk s t l) 25)) (.slice none 0 0) 0 0 noB
  have hz2 : ((w.alloc (.cells (chA vk s t l) 25)).alloc (.cells (chA (.slice none 0 0) 0 0 noB) 25)).heap.size = w.heap.size + 2 := by simp
  rw [hz] at dR
  clear bA hz
  have c0 := dC.c0
  obtain ⟨ak, ck, rfl⟩ := hk.shape
  have hlk := hk.len
  generalize hnk : key.length = nk at hk dC dR bb hz2 c0 ⊢
  have HNK : Hid (key.length = nk) := hnk
  clear hnk
  rw [chA_litD] at c0
  go_enter Tryd.func7, Tryd.ntmps7
  go_wp2_with fail
  refine (octets_any _ key _ (hk.below bb)).mono ?_
  rintro e w1 ⟨v1, rfl, o1, c1⟩
  rw [HNK.out, hz2] at o1
  replace dC := dC.below c1
  replace dR := dR.below c1
  replace bb : Below w.heap.size w w1 := bb.trans (c1.mono (by omega))
  clear c0 c1 hz2
  obtain ⟨a1, n1, hv1⟩ : ∃ a c, v1 = .slice a nk c := by
    rcases o1.2 with ⟨rfl, h0⟩ | ⟨g, cap, cur, rfl, _⟩
    · exact ⟨none, 0, by rw [h0]⟩
    · exact ⟨_, cap, rfl⟩
  subst hv1
  have c0 := dC.c0
  have f0 := dC.fr 0
  go_upto_region 2 with fail
  have o3 : (w1.setCell ⟨w.heap.size, 0, none⟩ (.slice a1 nk n1)).ownsRow 0 5 1 (.slice a1 nk n1) nk (key.map (Value.int .u8)) := owns_keepB (owns_lower o1 (Nat.zero_le _)) fun k hk' => heap_setCell_other _ _ _ _ (by have := o1.lt k hk'; show k ≠ w.heap.size; omega)
  have HOG : Hid (∀ k, (Value.slice a1 nk n1).ownBlock = some k → w.heap.size + 2 ≤ k ∧ k < w1.heap.size) := o1.lt
  have dC3 := dC.key (.slice a1 nk n1)
  have dR3 := dR.other w.heap.size 0 (.slice a1 nk n1) (by omega)
  have e3 := bb.setCell (p := ⟨w.heap.size, 0, none⟩) (Nat.le_refl _) (.slice a1 nk n1)
  generalize w1.setCell ⟨w.heap.size, 0, none⟩ (.slice a1 nk n1) = W3 at o3 dC3 dR3 e3 ⊢
  clear dC dR o1 bb c0 f0
  have hi2 := chInfoD (k := .slice a1 nk n1) (s := s) (t := t) hl
  have ho2 := chA_oneD a1 nk n1 s t l
  have hold : (chA (.slice none 0 0) 0 0 noB).size = (chA (.slice a1 nk n1) s t l).size := by rw [chA_size, chA_size, hl]; rfl
  go_wp2_with (first
    | (refine wpList_load_row rfl 25 _ rfl w.heap.size rfl 25 _ (0, 0) _ dC3.row Tryd.underlying25 rfl hi2 ?_)
    | (refine wpList_store_row rfl 25 _ _ rfl (w.heap.size + 1) _ rfl rfl 25 _ dR3.row hi2 hold ho2 ?_))
  have r2 := setRow_heap W3 (w.heap.size + 1) _ (chA (.slice a1 nk n1) s t l) 25 _ dR3.row
  exact bodyPost_ret (v := .agg (chA (.slice a1 nk n1) s t l)) (results_cell_row rfl _ _ (w.heap.size + 1) 25 _ (0, 0) _ rfl r2 Tryd.underlying25 rfl hi2) rfl ⟨.slice a1 nk n1, rfl, owns_keepB o3 fun k hk' => setRow_other _ _ _ _ (by have := HOG.out k hk'; omega), below_setRow e3 (by omega) _⟩

set_option maxHeartbeats 1000000 in
set_option maxRecDepth 100000 in
/-- two channels that are the same are found to be -/
theorem same_chan (va vb : Value) (key : List Int) (s t : Int) (l : List Bool) (w : World) (ha : Sl w va key) (hb : Sl w vb key) (hl : l.length = 8) :
    Calls Tryd.prog 11 #[.agg (chA va s t l), .agg (chA vb s t l)] w fun e w' => e = .returned (.bool true) ∧ Below w.heap.size w w' := by
  obtain ⟨x0, x1, x2, x3, x4, x5, x6, x7, rfl⟩ := eight l hl
  have hs := sn_eql [x0, x1, x2, x3, x4, x5, x6, x7] [x0, x1, x2, x3, x4, x5, x6, x7] rfl rfl
  rw [decide_eq_true rfl] at hs
  simp only [snA, List.map] at hs
  have bb : Below w.heap.size w ((w.alloc (.cells (chA va s t [x0, x1, x2, x3, x4, x5, x6, x7]) 25)).alloc (.cells (chA vb s t [x0, x1, x2, x3, x4, x5, x6, x7]) 25)) := ((Below.refl _ _).alloc (Nat.le_refl _) _).alloc (by simp) _
  simp only [chA, List.map] at bb ⊢
  go_enter Tryd.func11, Tryd.ntmps11
  go_wp2_with fail
  refine (law_same va vb key key _ (ha.below bb) (hb.below bb)).mono ?_
  rintro e w1 ⟨rfl, rfl⟩
  rw [decide_eq_true rfl]
  go_wp2
  go_ret
  exact ⟨rfl, bb⟩
end Go.Proofs.YtpoaabjpeigooaaDoor
