/-
  The walk of the document's own taking from a channel.
-/
import Derived.Test.YtakgfdbjgeopdaaGreatDoorKp40
import Derived.Test.YtakgfdbjgeopdaaGreatDoorKp24
namespace Go.Proofs.YtakgfdbjgeopdaaGreatDoor
open Go.RowKit
set_option linter.unusedVariables false

theorem By.c2 {w W : World} {k : Value} {s t : Int} {l : List Bool} (h : By w W k s t l) : W.cell? ⟨w.heap.size, 2, none⟩ = some (.int .i64 t) := (cell_of_row _ _ 2 _ _ _ h.row).trans (chA_top k s t l)
theorem take_getD (r : List Int) (m k : Nat) (h : k < m) : (r.take m).getD k 0 = r.getD k 0 := by simp [List.getD, h]
theorem Sl.cellsTF {w : World} {a : Option Addr} {n cap : Nat} {l : List Int} (h : Sl w (.slice a n cap) l) (hl : 0 < l.length) : ∃ bd od, a = some ⟨bd, od, none⟩ ∧ bd < w.heap.size ∧ ∀ k, k < l.length → w.cell? ⟨bd, od + k, none⟩ = some (.int .u8 (l.getD k 0)) := by
  obtain ⟨⟨a', cap', e, hc, hn, h1⟩, hla, hba⟩ := h
  simp only [Value.slice.injEq] at e
  obtain ⟨rfl, rfl, rfl⟩ := e
  rcases h1 with rfl | ⟨b, off, rfl, hb, hcell⟩
  · simp at hl
  · exact ⟨b, off, rfl, hb, hcell⟩

theorem Zl.at {w w' : World} {b o n cap : Nat} {zs : List Int} (h : Zl w (.slice (some ⟨b, o, none⟩) n cap) zs) (hb : Below w.heap.size w w') (i : Nat) (hi : i < zs.length) : w'.cell? ⟨b, o + i, none⟩ = some (.int .i64 (zs.getD i 0)) := by
  obtain ⟨b', o', e, _, hz, _⟩ := h.spot hb i hi
  simp only [Option.some.injEq, Addr.mk.injEq, and_true] at e
  obtain ⟨rfl, rfl⟩ := e
  exact hz

set_option maxHeartbeats 4000000 in
set_option maxRecDepth 100000 in
theorem takenFrom_any (vk : Value) (key : List Int) (s t : Int) (l : List Bool) (vr : Value) (r : List Int) (w : World) (hk : Sl w vk key) (hl : l.length = 8) (hr : Sl w vr r)
    (K R : List Int) (s' t' E : Int) (l' : List Bool) (hE : takeE key s t l r = E) (HN : E ≠ 0 → K = [] ∧ R = [] ∧ s' = 0 ∧ t' = 0 ∧ l' = noB)
    (HY : E = 0 → K = key ∧ R = takeL key r ∧ s' = s ∧ t' = takT t (numL (r.take 4)) ∧ l' = takS t l (numL (r.take 4))) :
    Calls Tryz.prog 31 #[.agg (chA vk s t l), vr] w fun e w' => ∃ v1 v2, e = .returned (.tuple #[.agg (chA v1 s' t' l'), v2, .int .i64 E]) ∧ Sl w' v1 K ∧ w'.ownsRow 0 5 1 v1 K.length (K.map (Value.int .u8)) ∧ Sl w' v2 R ∧ Below w.heap.size w w' := by
  have bx := By.new w vk s t l
  have hi := chInfo (k := vk) (s := s) (t := t) hl
  have hi4 := chInfo (k := .slice none 0 0) (s := 0) (t := 0) noB_length
  have ho4 := chA_one (Sl.nil w none) 0 0 noB
  obtain ⟨ar, cr, rfl⟩ := hr.shape
  have hrl := hr.len
  have HF : Hid (∀ c : Int, c = E → c ≠ 0 → ∀ W', Below w.heap.size w W' → ∃ v1 v2, (Ending.returned (.tuple #[.agg (chA (.slice none 0 0) 0 0 noB), .slice none 0 0, .int .i64 c]) = .returned (.tuple #[.agg (chA v1 s' t' l'), v2, .int .i64 E])) ∧ Sl W' v1 K ∧ W'.ownsRow 0 5 1 v1 K.length (K.map (Value.int .u8)) ∧ Sl W' v2 R ∧ Below w.heap.size w W') := by
    rintro c rfl hc W' hb
    obtain ⟨rfl, rfl, rfl, rfl, rfl⟩ := HN hc
    exact ⟨_, _, rfl, Sl.nil _ _, World.ownsRow_nil _ _ _ _, Sl.nil _ _, hb⟩
  have HE : Hid (takeE key s t l r = E) := hE
  have HYY : Hid (E = 0 → K = key ∧ R = takeL key r ∧ s' = s ∧ t' = takT t (numL (r.take 4)) ∧ l' = takS t l (numL (r.take 4))) := HY
  clear hE HY HN
  go_enter Tryz.func31, Tryz.ntmps31
  go_wp2_with (refine wpList_load_row rfl 55 _ rfl w.heap.size rfl 55 _ (0, 0) _ bx.row Tryz.underlying55 rfl hi ?_)
  refine (chfault_any vk key s t l _ (hk.below bx.bel) hl).mono ?_
  rintro e w1 ⟨rfl, b1⟩
  replace bx := bx.step b1
  clear b1
  by_cases hok : OkC key s t l
  · rw [checkE_ok hok]
    have s0 := hok.s0
    have s1 := hok.s1
    have t0 := hok.t0
    have t1 := hok.t1
    by_cases h1 : 2020 < r.length
    · have h1' : (2020 : Int) < (r.length : Int) := by omega
      have H1 : Hid (1 = E) := by rw [← HE.out]; unfold Hid takeE; rw [if_neg (fun h => h hok), if_pos h1]
      go_wp2_with (refine wpList_store_row rfl 55 _ _ rfl (w.heap.size + 1) (chA (.slice none 0 0) 0 0 noB) rfl rfl 55 _ bx.res hi4 rfl ho4 ?_)
      have r2 := setRow_heap w1 (w.heap.size + 1) _ (chA (.slice none 0 0) 0 0 noB) 55 _ bx.res
      obtain ⟨u1, u2, hu, a1, a2, a3, a4⟩ := HF.out (1) H1.out (by omega) (w1.setRow (w.heap.size + 1) (chA (.slice none 0 0) 0 0 noB)) (below_setRow bx.bel (by omega) _)
      exact bodyPost_ret (results_row3 rfl _ _ (w.heap.size + 1) 55 _ (0, 0) _ rfl r2 Tryz.underlying55 rfl hi4) rfl ⟨u1, u2, by exact hu, a1, a2, a3, a4⟩
    · have h1' : ¬ (2020 : Int) < (r.length : Int) := by omega
      by_cases h2 : r.length < 20
      · have h2' : (r.length : Int) < 20 := by omega
        have H1 : Hid (13 = E) := by rw [← HE.out]; unfold Hid takeE; rw [if_neg (fun h => h hok), if_neg h1, if_pos h2]
        go_wp2_with (refine wpList_store_row rfl 55 _ _ rfl (w.heap.size + 1) (chA (.slice none 0 0) 0 0 noB) rfl rfl 55 _ bx.res hi4 rfl ho4 ?_)
        have r2 := setRow_heap w1 (w.heap.size + 1) _ (chA (.slice none 0 0) 0 0 noB) 55 _ bx.res
        obtain ⟨u1, u2, hu, a1, a2, a3, a4⟩ := HF.out (13) H1.out (by omega) (w1.setRow (w.heap.size + 1) (chA (.slice none 0 0) 0 0 noB)) (below_setRow bx.bel (by omega) _)
        exact bodyPost_ret (results_row3 rfl _ _ (w.heap.size + 1) 55 _ (0, 0) _ rfl r2 Tryz.underlying55 rfl hi4) rfl ⟨u1, u2, by exact hu, a1, a2, a3, a4⟩
      · have h2' : ¬ (r.length : Int) < 20 := by omega
        obtain ⟨rb, ro, har, hrb, hrc⟩ := (hr.below bx.bel).cellsTF (by omega)
        subst har
        have g0 := hrc 0 (by omega)
        have g1 := hrc 1 (by omega)
        have g2 := hrc 2 (by omega)
        have g3 := hrc 3 (by omega)
        rw [Nat.add_zero] at g0
        have HNUM : Hid (numL (r.take 4) = 16777216 * r.getD 0 0 + 65536 * r.getD 1 0 + 256 * r.getD 2 0 + r.getD 3 0) := by
          show numL _ = _
          unfold numL
          rw [take_getD r 4 0 (by omega), take_getD r 4 1 (by omega), take_getD r 4 2 (by omega), take_getD r 4 3 (by omega)]
        have q0 := getD_byte hr.byte 0
        have q1 := getD_byte hr.byte 1
        have q2 := getD_byte hr.byte 2
        have q3 := getD_byte hr.byte 3
        clear hrc
        generalize r.getD 0 0 = p0 at g0 q0 HNUM
        generalize r.getD 1 0 = p1 at g1 q1 HNUM
        generalize r.getD 2 0 = p2 at g2 q2 HNUM
        generalize r.getD 3 0 = p3 at g3 q3 HNUM
        have c2 := bx.c2
        go_wp2_with fail
        go_quiet (fail)
        have e1 : Below w1.heap.size w1 (w1.drewN nq) := below_drewN (Below.refl _ _) nq
        replace bx := bx.step e1
        clear e1 g0 g1 g2 g3 c2
        generalize w1.drewN nq = w2 at bx ⊢
        obtain ⟨n, hn⟩ : ∃ n, 16777216 * p0 + 65536 * p1 + 256 * p2 + p3 = n := ⟨_, rfl⟩
        rw [hn] at HNUM ⊢
        have n0 : 0 ≤ n := by omega
        clear hn
        have c2 := bx.c2
        by_cases h3 : 1073741824 ≤ n
        · clear q0 q1 q2 q3
          have H1 : Hid (2 = E) := by rw [← HE.out]; unfold Hid takeE; rw [if_neg (fun h => h hok), if_neg h1, if_neg h2, if_pos (by rw [HNUM.out]; exact h3)]
          go_wp2_with (refine wpList_store_row rfl 55 _ _ rfl (w.heap.size + 1) (chA (.slice none 0 0) 0 0 noB) rfl rfl 55 _ bx.res hi4 rfl ho4 ?_)
          have r2 := setRow_heap w2 (w.heap.size + 1) _ (chA (.slice none 0 0) 0 0 noB) 55 _ bx.res
          obtain ⟨u1, u2, hu, a1, a2, a3, a4⟩ := HF.out (2) H1.out (by omega) (w2.setRow (w.heap.size + 1) (chA (.slice none 0 0) 0 0 noB)) (below_setRow bx.bel (by omega) _)
          exact bodyPost_ret (results_row3 rfl _ _ (w.heap.size + 1) 55 _ (0, 0) _ rfl r2 Tryz.underlying55 rfl hi4) rfl ⟨u1, u2, by exact hu, a1, a2, a3, a4⟩
        · by_cases h4 : n + 8 < t
          · clear q0 q1 q2 q3
            have H1 : Hid (7 = E) := by rw [← HE.out]; unfold Hid takeE; rw [if_neg (fun h => h hok), if_neg h1, if_neg h2, if_neg (by rw [HNUM.out]; exact h3), if_pos (by rw [HNUM.out]; exact oldB_low (by omega))]
            go_wp2_with (refine wpList_store_row rfl 55 _ _ rfl (w.heap.size + 1) (chA (.slice none 0 0) 0 0 noB) rfl rfl 55 _ bx.res hi4 rfl ho4 ?_)
            have r2 := setRow_heap w2 (w.heap.size + 1) _ (chA (.slice none 0 0) 0 0 noB) 55 _ bx.res
            obtain ⟨u1, u2, hu, a1, a2, a3, a4⟩ := HF.out (7) H1.out (by omega) (w2.setRow (w.heap.size + 1) (chA (.slice none 0 0) 0 0 noB)) (below_setRow bx.bel (by omega) _)
            exact bodyPost_ret (results_row3 rfl _ _ (w.heap.size + 1) 55 _ (0, 0) _ rfl r2 Tryz.underlying55 rfl hi4) rfl ⟨u1, u2, by exact hu, a1, a2, a3, a4⟩
          · go_wp2_with (refine wpList_load_row rfl 55 _ rfl w.heap.size rfl 55 _ (0, 0) _ bx.row Tryz.underlying55 rfl hi ?_)
            clear q0 q1 q2 q3
            refine (met_any vk s t l w2 hl t0 t1).mono ?_
            rintro e w3 ⟨vm, rfl, om, b3⟩
            replace bx := bx.step b3
            have hml := metL_length t l 8
            have hmr : ∀ x ∈ metL t l 8, t - 8 ≤ x ∧ x < t := fun x hx => metL_range x hx
            obtain ⟨L, hL⟩ : ∃ L, metL t l 8 = L := ⟨_, rfl⟩
            rw [hL] at om hml hmr
            have HL : Hid (metL t l 8 = L) := hL
            have zm := Zl.ofOwns (owns_lower om (Nat.zero_le _)) (by omega) (fun x hx => by have := hmr x hx; omega)
            clear c2 hL om b3
            obtain ⟨am, cm, hvm, hcm⟩ := zm.shape
            subst hvm
            go_wp2_with fail
            go_loopw [10, 11, 12] (fun v d iv wr => ∃ i : Nat, i ≤ L.length ∧ iv = .int .i64 (i : Int) ∧ d = .bool (insD L n i) ∧ wr.ownsRow w3.heap.size 3 1 v (insO L n i).length ((insO L n i).map (Value.int .i64)) ∧ (∀ j, j < i → L.getD j 0 ≠ n) ∧ Below w3.heap.size w3 wr) (fun _ _ iv _ => L.length - (intOf iv).toNat)
            case atStart => exact ⟨0, by omega, rfl, rfl, World.ownsRow_nil _ _ _ _, fun j hj => by omega, Below.refl _ _⟩
            case round =>
              obtain ⟨i, hi', rfl, rfl, hown, hne, hbel⟩ := hrel
              have hlt0 := hown.lt
              have hM : (insO L n i).length ≤ 10 := by rw [insO_length]; split <;> omega
              by_cases hlt : i < L.length
              · have hi1 : (i : Int) < (L.length : Int) := by omega
                obtain ⟨zb, zo, haz, hzb, hz, _, _⟩ := zm.spot hbel i hlt
                subst haz
                have hmem : L.getD i 0 ∈ L := (mem_getD L _).2 ⟨i, hlt, rfl⟩
                have hx := hmr _ hmem
                have HZ : Hid (∀ W : World, Below w3.heap.size w3 W → W.cell? ⟨zb, zo + i, none⟩ = some (.int .i64 (L.getD i 0))) := fun W hW => zm.at hW i hlt
                have HD : Hid (insD L n (i + 1) = (insD L n i || decide (n < L.getD i 0))) := rfl
                have HO : Hid (insO L n (i + 1) = (if insD L n i = false ∧ n < L.getD i 0 then insO L n i ++ [n] else insO L n i) ++ [L.getD i 0]) := rfl
                have HNE : Hid (L.getD i 0 ≠ n → ∀ j, j < i + 1 → L.getD j 0 ≠ n) := fun h j hj => by
                  by_cases hji : j = i
                  · rw [hji]; exact h
                  · exact hne j (by omega)
                generalize L.getD i 0 = x at hz hx HZ HD HO HNE hmem
                by_cases hxn : x = n
                · subst hxn
                  replace bx := bx.step hbel
                  have HOLD : Hid (oldB t l x = true) := by
                    unfold Hid
                    rw [oldB_of (by omega), ← metL_iff, HL.out]
                    exact hmem
                  clear HD HO HNE HZ
                  have H1 : Hid (7 = E) := by rw [← HE.out]; unfold Hid takeE; rw [if_neg (fun h => h hok), if_neg h1, if_neg h2, if_neg (by rw [HNUM.out]; omega), if_pos (by rw [HNUM.out]; exact HOLD.out)]
                  go_wp2_with (refine wpList_store_row rfl 55 _ _ rfl (w.heap.size + 1) (chA (.slice none 0 0) 0 0 noB) rfl rfl 55 _ bx.res hi4 rfl ho4 ?_)
                  have r2 := setRow_heap wr (w.heap.size + 1) _ (chA (.slice none 0 0) 0 0 noB) 55 _ bx.res
                  obtain ⟨u1, u2, hu, a1, a2, a3, a4⟩ := HF.out (7) H1.out (by omega) (wr.setRow (w.heap.size + 1) (chA (.slice none 0 0) 0 0 noB)) (below_setRow bx.bel (by omega) _)
                  exact bodyPost_ret (results_row3 rfl _ _ (w.heap.size + 1) 55 _ (0, 0) _ rfl r2 Tryz.underlying55 rfl hi4) rfl ⟨u1, u2, by exact hu, a1, a2, a3, a4⟩
                · replace HNE : Hid (∀ j, j < i + 1 → L.getD j 0 ≠ n) := HNE.out hxn
                  clear hne hmem
                  generalize insO L n i = M at hown HO hM hlt0
                  generalize insD L n i = d at HD HO
                  have hwz := hbel.size
                  cases d with
                  | true =>
                    rw [Bool.true_or] at HD
                    rw [if_neg (fun h => by cases h.1)] at HO
                    go_wp2_with (at_builtin; refine wpList_append_digit _ rfl _ _ rfl w3.heap.size _ M wr.heap.size x rfl rfl (hown.alloc _) (by simp) (by omega) (by have := hbel.size; simp; omega) ?_)
                    intro v5 w5 ho hg
                    have hbw5 : Below w3.heap.size w3 w5 := (hbel.alloc (by have := hbel.size; omega) _).grown hg (by simp; omega) (fun k hk => (hlt0 k hk).1)
                    have how5 : w5.ownsRow w3.heap.size 3 1 v5 (M ++ [x]).length ((M ++ [x]).map (Value.int .i64)) := by simpa using ho
                    clear ho hg
                    clear hown hbel hlt0 hz
                    go_wp2
                    go_roundw
                    case rel => exact ⟨i + 1, by omega, by go_num, by rw [HD.out], by rw [HO.out]; exact how5, HNE.out, hbw5⟩
                    case measure => simp [intOf]; omega
                  | false =>
                    rw [Bool.false_or] at HD
                    by_cases hgt : n < x
                    · rw [decide_eq_true hgt] at HD
                      rw [if_pos ⟨rfl, hgt⟩] at HO
                      go_wp2_with (at_builtin; refine wpList_append_digit _ rfl _ _ rfl w3.heap.size _ M wr.heap.size n rfl rfl (hown.alloc _) (by simp) (by omega) (by have := hbel.size; simp; omega) ?_)
                      intro v5 w5 ho hg
                      have hbw5 : Below w3.heap.size w3 w5 := (hbel.alloc (by have := hbel.size; omega) _).grown hg (by simp; omega) (fun k hk => (hlt0 k hk).1)
                      have how5 : w5.ownsRow w3.heap.size 3 1 v5 (M ++ [n]).length ((M ++ [n]).map (Value.int .i64)) := by simpa using ho
                      clear ho hg
                      have hz5 := HZ.out w5 hbw5
                      have hwz5 := hbw5.size
                      have hlt5 := how5.lt
                      have hM5 : (M ++ [n]).length ≤ 11 := by simp; omega
                      clear hown hbel hlt0 hz
                      generalize M ++ [n] = M5 at how5 hM5 HO
                      go_wp2_with (at_builtin; refine wpList_append_digit _ rfl _ _ rfl w3.heap.size _ M5 w5.heap.size x rfl rfl (how5.alloc _) (by simp) (by omega) (by have := hbw5.size; simp; omega) ?_)
                      intro v6 w6 ho hg
                      have hbw6 : Below w3.heap.size w3 w6 := (hbw5.alloc (by have := hbw5.size; omega) _).grown hg (by simp; omega) (fun k hk => (hlt5 k hk).1)
                      have how6 : w6.ownsRow w3.heap.size 3 1 v6 (M5 ++ [x]).length ((M5 ++ [x]).map (Value.int .i64)) := by simpa using ho
                      clear ho hg
                      clear how5 hbw5 hlt5 hz5
                      go_wp2
                      go_roundw
                      case rel => exact ⟨i + 1, by omega, by go_num, by rw [HD.out], by rw [HO.out]; exact how6, HNE.out, hbw6⟩
                      case measure => simp [intOf]; omega
                    · rw [decide_eq_false hgt] at HD
                      rw [if_neg (fun h => hgt h.2)] at HO
                      go_wp2_with (at_builtin; refine wpList_append_digit _ rfl _ _ rfl w3.heap.size _ M wr.heap.size x rfl rfl (hown.alloc _) (by simp) (by omega) (by have := hbel.size; simp; omega) ?_)
                      intro v5 w5 ho hg
                      have hbw5 : Below w3.heap.size w3 w5 := (hbel.alloc (by have := hbel.size; omega) _).grown hg (by simp; omega) (fun k hk => (hlt0 k hk).1)
                      have how5 : w5.ownsRow w3.heap.size 3 1 v5 (M ++ [x]).length ((M ++ [x]).map (Value.int .i64)) := by simpa using ho
                      clear ho hg
                      clear hown hbel hlt0 hz
                      go_wp2
                      go_roundw
                      case rel => exact ⟨i + 1, by omega, by go_num, by rw [HD.out], by rw [HO.out]; exact how5, HNE.out, hbw5⟩
                      case measure => simp [intOf]; omega
              · obtain rfl : i = L.length := by omega
                have hnil : ¬ (L.length : Int) < (L.length : Int) := by omega
                have hwz := hbel.size
                have HNOT : Hid (n ∉ metL t l 8) := fun h => by
                  rw [HL.out] at h
                  obtain ⟨j, h5, h6⟩ := (mem_getD L n).1 h
                  exact hne j h5 h6.symm
                have HTE : Hid (openE key (nonceL (r.take 4)) (r.take 4) (r.drop 4) = E) := by
                  unfold Hid
                  rw [← HE.out]
                  refine (takeE_of hok (by omega) (by omega) (by rw [HNUM.out]; omega) ?_).symm
                  rw [HNUM.out, oldB_of (by omega)]
                  cases hmb : metB t l n with
                  | false => rfl
                  | true => exact absurd ((metL_iff n).2 hmb) HNOT.out
                have HHD : Hid (headL n = r.take 4) := by
                  unfold Hid
                  rw [← HNUM.out]
                  exact headL_num (by rw [List.length_take]; omega) (fun x hx => hr.byte x (List.mem_of_mem_take hx))
                obtain ⟨a4, c4, r4', s4⟩ := hr.from 4 (by omega)
                have r4 : ∀ W, (Instr.slice 26 (.slice (some ⟨rb, ro, none⟩) r.length cr) (some (.int .i64 4)) none none).run Tryz.prog W = .ok (.slice a4 (r.length - 4) c4) W := r4'
                clear r4' hne
                generalize hn4 : r.length - 4 = n4 at r4 s4
                clear hn4
                cases hd : insD L n L.length with
                | true =>
                  have HFF : Hid (insF L n = insO L n L.length) := if_pos hd
                  rw [← HFF.out] at hown
                  clear hd
                  have bq := hbel
                  replace bx := bx.step bq
                  have oF := hown
                  clear hown hbel bq
                  have hFl := insF_length L n
                  go_wp2_with fail
                  refine (refHead_any n wr n0 (by omega)).mono ?_
                  rintro e w6 ⟨vh, rfl, sh, b6⟩
                  rw [HHD.out] at sh
                  replace bx := bx.step b6
                  replace oF := owns_below oF b6
                  clear b6
                  go_wp2_with fail
                  have bz : Below w6.heap.size w6 (w6.alloc (.cells #[.int .u8 0, .int .u8 0, .int .u8 0, .int .u8 0, .int .u8 0, .int .u8 0, .int .u8 0, .int .u8 0] 5)) := (Below.refl _ _).alloc (Nat.le_refl _) _
                  refine (join_sl _ vh (List.replicate 8 0) (r.take 4) _ (Sl.zero8 w6 _) (sh.below bz) (by simp) (by rw [List.length_take]; omega)).mono ?_
                  rintro e w7 ⟨vn, rfl, sn, b7⟩
                  have bz7 : Below w6.heap.size w6 w7 := bz.trans (b7.mono (by simp))
                  replace bx := bx.step bz7
                  replace oF := owns_below oF bz7
                  have sh7 := sh.below bz7
                  clear bz b7 bz7 sh
                  have c0 := bx.c0
                  go_wp2_with fail
                  have hd7 : Below w7.heap.size w7 w7.drew := (Below.refl _ _).drew
                  go_region_with (go_at_call 63; refine (opened_any _ vn vh _ key (nonceL (r.take 4)) (r.take 4) (r.drop 4) w7.drew ((hk.below bx.bel).below hd7) (sn.below hd7) (sh7.below hd7) ((s4.below bx.bel).below hd7)).mono ?_; rintro e w8 ⟨vx, rfl, sx, b8⟩)
                  replace b8 := hd7.trans b8
                  replace bx := bx.step b8
                  replace oF := owns_below oF b8
                  clear b8 c0 sn sh7
                  have HOE : Hid (openE key (nonceL (r.take 4)) (r.take 4) (r.drop 4) = E) := HTE.out
                  obtain ⟨f0, hf0⟩ : ∃ f0, openE key (nonceL (r.take 4)) (r.take 4) (r.drop 4) = f0 := ⟨_, rfl⟩
                  rw [hf0] at HOE ⊢
                  clear hf0
                  by_cases hz0 : f0 = 0
                  · subst hz0
                    have c0 := bx.c0
                    have c1 := bx.c1
                    have hnot : n ∉ metL t l 8 := HNOT.out
                    have hF1 := insF_top hl hok n n0 hnot
                    have hF2 := insF_seen hl hok n n0 hnot
                    have hF3 := insF_range hl hok n n0 (by omega) hnot
                    rw [HL.out] at hF1 hF2 hF3
                    clear hnot
                    go_wp2_with fail
                    refine (chan_any _ key s _ (insF L n) w8 (hk.below bx.bel) (by have := hok.key; omega) (Zl.ofOwns (owns_lower oF (Nat.zero_le _)) (by omega) (fun x hx => by have := hF3 x hx; have := takT_le t n; omega)) hF3 (by omega)).mono ?_
                    rintro e w9 ⟨v9, rfl, o9, b9⟩
                    rw [hF1, hF2]
                    replace bx := bx.step b9
                    have s9 := Sl.ofOwns o9 hk.len hk.byte
                    replace sx := sx.below b9
                    clear b9 c0 c1 oF hF1 hF2 hF3
                    obtain ⟨hK, hR, hs', ht', hl'⟩ := HYY.out HOE.out.symm
                    rw [HNUM.out] at ht' hl'
                    have hi9 := chInfo (k := v9) (s := s) (t := takT t n) (takS_length t l n)
                    have ho9 := chA_one s9 s (takT t n) (takS t l n)
                    have hold9 : (chA (.slice none 0 0) 0 0 noB).size = (chA v9 s (takT t n) (takS t l n)).size := by rw [chA_size, chA_size, takS_length]; rfl
                    have HOE0 : Hid (0 = E) := HOE.out
                    go_wp2_with (refine wpList_store_row rfl 55 _ _ rfl (w.heap.size + 1) _ rfl rfl 55 _ bx.res hi9 hold9 ho9 ?_)
                    have r9 := setRow_heap w9 (w.heap.size + 1) _ (chA v9 s (takT t n) (takS t l n)) 55 _ bx.res
                    subst hK hR hs' ht' hl'
                    exact bodyPost_ret (results_row3 rfl _ _ (w.heap.size + 1) 55 _ (0, 0) _ rfl r9 Tryz.underlying55 rfl hi9) rfl ⟨v9, vx, by rw [← HOE0.out]; rfl, s9.setRowBox bx.res _, own_setRowBox o9 bx.res (by decide) _, sx.setRowBox bx.res _, below_setRow bx.bel (by omega) _⟩
                  · clear oF
                    have H1 : Hid (f0 = E) := HOE.out
                    go_wp2_with (refine wpList_store_row rfl 55 _ _ rfl (w.heap.size + 1) (chA (.slice none 0 0) 0 0 noB) rfl rfl 55 _ bx.res hi4 rfl ho4 ?_)
                    have r2 := setRow_heap w8 (w.heap.size + 1) _ (chA (.slice none 0 0) 0 0 noB) 55 _ bx.res
                    obtain ⟨u1, u2, hu, a1, a2, a3, a4⟩ := HF.out (f0) H1.out (by assumption) (w8.setRow (w.heap.size + 1) (chA (.slice none 0 0) 0 0 noB)) (below_setRow bx.bel (by omega) _)
                    exact bodyPost_ret (results_row3 rfl _ _ (w.heap.size + 1) 55 _ (0, 0) _ rfl r2 Tryz.underlying55 rfl hi4) rfl ⟨u1, u2, by exact hu, a1, a2, a3, a4⟩
                | false =>
                  have HFF : Hid (insF L n = insO L n L.length ++ [n]) := if_neg (by rw [hd]; simp)
                  clear hd
                  generalize insO L n L.length = M at hown hM hlt0 HFF
                  go_wp2_with (at_builtin; refine wpList_append_digit _ rfl _ _ rfl w3.heap.size _ M wr.heap.size n rfl rfl (hown.alloc _) (by simp) (by omega) (by have := hbel.size; simp; omega) ?_)
                  intro v5 w5 ho hg
                  have hbw5 : Below w3.heap.size w3 w5 := (hbel.alloc (by have := hbel.size; omega) _).grown hg (by simp; omega) (fun k hk => (hlt0 k hk).1)
                  have how5 : w5.ownsRow w3.heap.size 3 1 v5 (M ++ [n]).length ((M ++ [n]).map (Value.int .i64)) := by simpa using ho
                  clear ho hg
                  rw [← HFF.out] at how5
                  have bq := hbw5
                  replace bx := bx.step bq
                  have oF := how5
                  clear hown hbel bq
                  have hFl := insF_length L n
                  go_wp2_with fail
                  refine (refHead_any n w5 n0 (by omega)).mono ?_
                  rintro e w6 ⟨vh, rfl, sh, b6⟩
                  rw [HHD.out] at sh
                  replace bx := bx.step b6
                  replace oF := owns_below oF b6
                  clear b6
                  go_wp2_with fail
                  have bz : Below w6.heap.size w6 (w6.alloc (.cells #[.int .u8 0, .int .u8 0, .int .u8 0, .int .u8 0, .int .u8 0, .int .u8 0, .int .u8 0, .int .u8 0] 5)) := (Below.refl _ _).alloc (Nat.le_refl _) _
                  refine (join_sl _ vh (List.replicate 8 0) (r.take 4) _ (Sl.zero8 w6 _) (sh.below bz) (by simp) (by rw [List.length_take]; omega)).mono ?_
                  rintro e w7 ⟨vn, rfl, sn, b7⟩
                  have bz7 : Below w6.heap.size w6 w7 := bz.trans (b7.mono (by simp))
                  replace bx := bx.step bz7
                  replace oF := owns_below oF bz7
                  have sh7 := sh.below bz7
                  clear bz b7 bz7 sh
                  have c0 := bx.c0
                  go_wp2_with fail
                  have hd7 : Below w7.heap.size w7 w7.drew := (Below.refl _ _).drew
                  go_region_with (go_at_call 63; refine (opened_any _ vn vh _ key (nonceL (r.take 4)) (r.take 4) (r.drop 4) w7.drew ((hk.below bx.bel).below hd7) (sn.below hd7) (sh7.below hd7) ((s4.below bx.bel).below hd7)).mono ?_; rintro e w8 ⟨vx, rfl, sx, b8⟩)
                  replace b8 := hd7.trans b8
                  replace bx := bx.step b8
                  replace oF := owns_below oF b8
                  clear b8 c0 sn sh7
                  have HOE : Hid (openE key (nonceL (r.take 4)) (r.take 4) (r.drop 4) = E) := HTE.out
                  obtain ⟨f0, hf0⟩ : ∃ f0, openE key (nonceL (r.take 4)) (r.take 4) (r.drop 4) = f0 := ⟨_, rfl⟩
                  rw [hf0] at HOE ⊢
                  clear hf0
                  by_cases hz0 : f0 = 0
                  · subst hz0
                    have c0 := bx.c0
                    have c1 := bx.c1
                    have hnot : n ∉ metL t l 8 := HNOT.out
                    have hF1 := insF_top hl hok n n0 hnot
                    have hF2 := insF_seen hl hok n n0 hnot
                    have hF3 := insF_range hl hok n n0 (by omega) hnot
                    rw [HL.out] at hF1 hF2 hF3
                    clear hnot
                    go_wp2_with fail
                    refine (chan_any _ key s _ (insF L n) w8 (hk.below bx.bel) (by have := hok.key; omega) (Zl.ofOwns (owns_lower oF (Nat.zero_le _)) (by omega) (fun x hx => by have := hF3 x hx; have := takT_le t n; omega)) hF3 (by omega)).mono ?_
                    rintro e w9 ⟨v9, rfl, o9, b9⟩
                    rw [hF1, hF2]
                    replace bx := bx.step b9
                    have s9 := Sl.ofOwns o9 hk.len hk.byte
                    replace sx := sx.below b9
                    clear b9 c0 c1 oF hF1 hF2 hF3
                    obtain ⟨hK, hR, hs', ht', hl'⟩ := HYY.out HOE.out.symm
                    rw [HNUM.out] at ht' hl'
                    have hi9 := chInfo (k := v9) (s := s) (t := takT t n) (takS_length t l n)
                    have ho9 := chA_one s9 s (takT t n) (takS t l n)
                    have hold9 : (chA (.slice none 0 0) 0 0 noB).size = (chA v9 s (takT t n) (takS t l n)).size := by rw [chA_size, chA_size, takS_length]; rfl
                    have HOE0 : Hid (0 = E) := HOE.out
                    go_wp2_with (refine wpList_store_row rfl 55 _ _ rfl (w.heap.size + 1) _ rfl rfl 55 _ bx.res hi9 hold9 ho9 ?_)
                    have r9 := setRow_heap w9 (w.heap.size + 1) _ (chA v9 s (takT t n) (takS t l n)) 55 _ bx.res
                    subst hK hR hs' ht' hl'
                    exact bodyPost_ret (results_row3 rfl _ _ (w.heap.size + 1) 55 _ (0, 0) _ rfl r9 Tryz.underlying55 rfl hi9) rfl ⟨v9, vx, by rw [← HOE0.out]; rfl, s9.setRowBox bx.res _, own_setRowBox o9 bx.res (by decide) _, sx.setRowBox bx.res _, below_setRow bx.bel (by omega) _⟩
                  · clear oF
                    have H1 : Hid (f0 = E) := HOE.out
                    go_wp2_with (refine wpList_store_row rfl 55 _ _ rfl (w.heap.size + 1) (chA (.slice none 0 0) 0 0 noB) rfl rfl 55 _ bx.res hi4 rfl ho4 ?_)
                    have r2 := setRow_heap w8 (w.heap.size + 1) _ (chA (.slice none 0 0) 0 0 noB) 55 _ bx.res
                    obtain ⟨u1, u2, hu, a1, a2, a3, a4⟩ := HF.out (f0) H1.out (by assumption) (w8.setRow (w.heap.size + 1) (chA (.slice none 0 0) 0 0 noB)) (below_setRow bx.bel (by omega) _)
                    exact bodyPost_ret (results_row3 rfl _ _ (w.heap.size + 1) 55 _ (0, 0) _ rfl r2 Tryz.underlying55 rfl hi4) rfl ⟨u1, u2, by exact hu, a1, a2, a3, a4⟩
  · rw [checkE_no hok]
    have H1 : Hid (5 = E) := by rw [← HE.out]; unfold Hid takeE; rw [if_pos hok]
    go_wp2_with (refine wpList_store_row rfl 55 _ _ rfl (w.heap.size + 1) (chA (.slice none 0 0) 0 0 noB) rfl rfl 55 _ bx.res hi4 rfl ho4 ?_)
    have r2 := setRow_heap w1 (w.heap.size + 1) _ (chA (.slice none 0 0) 0 0 noB) 55 _ bx.res
    obtain ⟨u1, u2, hu, a1, a2, a3, a4⟩ := HF.out (5) H1.out (by omega) (w1.setRow (w.heap.size + 1) (chA (.slice none 0 0) 0 0 noB)) (below_setRow bx.bel (by omega) _)
    exact bodyPost_ret (results_row3 rfl _ _ (w.heap.size + 1) 55 _ (0, 0) _ rfl r2 Tryz.underlying55 rfl hi4) rfl ⟨u1, u2, by exact hu, a1, a2, a3, a4⟩
theorem takenFrom_ok (vk : Value) (key : List Int) (s t : Int) (l : List Bool) (vr : Value) (r : List Int) (w : World) (hk : Sl w vk key) (hl : l.length = 8) (hr : Sl w vr r) (hE : takeE key s t l r = 0) (n : Int) (hn : numL (r.take 4) = n) :
    Calls Tryz.prog 31 #[.agg (chA vk s t l), vr] w fun e w' => ∃ v1 v2, e = .returned (.tuple #[.agg (chA v1 s (takT t n) (takS t l n)), v2, .int .i64 0]) ∧ Sl w' v1 key ∧ w'.ownsRow 0 5 1 v1 key.length (key.map (Value.int .u8)) ∧ Sl w' v2 (takeL key r) ∧ Below w.heap.size w w' :=
  takenFrom_any vk key s t l vr r w hk hl hr key (takeL key r) s (takT t n) 0 (takS t l n) hE (fun h => absurd rfl h) (fun _ => by rw [hn]; exact ⟨rfl, rfl, rfl, rfl, rfl⟩)
theorem takenFrom_no (vk : Value) (key : List Int) (s t : Int) (l : List Bool) (vr : Value) (r : List Int) (w : World) (hk : Sl w vk key) (hl : l.length = 8) (hr : Sl w vr r) (E : Int) (hE : takeE key s t l r = E) (hE0 : E ≠ 0) :
    Calls Tryz.prog 31 #[.agg (chA vk s t l), vr] w fun e w' => ∃ v1 v2, e = .returned (.tuple #[.agg (chA v1 0 0 noB), v2, .int .i64 E]) ∧ Sl w' v1 [] ∧ w'.ownsRow 0 5 1 v1 ([] : List Int).length (([] : List Int).map (Value.int .u8)) ∧ Sl w' v2 [] ∧ Below w.heap.size w w' :=
  takenFrom_any vk key s t l vr r w hk hl hr [] [] 0 0 E noB hE (fun _ => ⟨rfl, rfl, rfl, rfl, rfl⟩) (fun h => absurd h hE0)
end Go.Proofs.YtakgfdbjgeopdaaGreatDoor
