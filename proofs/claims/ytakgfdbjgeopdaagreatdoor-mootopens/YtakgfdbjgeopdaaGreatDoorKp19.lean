/-
  The walk of Check.
-/
import Derived.StillTailTactics
import Derived.Test.YtakgfdbjgeopdaaGreatDoorKp9
import Derived.Test.YtakgfdbjgeopdaaGreatDoorKp2
import Derived.Test.YtakgfdbjgeopdaaGreatDoorKp5
namespace Go.Proofs.YtakgfdbjgeopdaaGreatDoor
open Go.RowKit
set_option linter.unusedVariables false

theorem NTab.value1 {w : World} (h : NTab w) : w.cell? ⟨0, 1 * 3 + 2, none⟩ = some (.int .i64 1073741824) := h.cell 5 (by omega)
theorem NTab.value {w : World} (h : NTab w) (k : Nat) (h0 : 1 ≤ k) (h1 : k ≤ 3) : w.cell? ⟨0, k * 3 + 2, none⟩ = some (.int .i64 (if k = 1 then 1073741824 else 0)) := by
  rcases (by omega : k = 1 ∨ k = 2 ∨ k = 3) with rfl | rfl | rfl
  · exact h.cell 5 (by omega)
  · exact h.cell 8 (by omega)
  · exact h.cell 11 (by omega)
set_option maxHeartbeats 1000000 in
set_option maxRecDepth 100000 in
theorem oCheck_any (k c s n v : Int) (w : World) (ht : NTab w) :
    Calls Tryz.prog 44 #[.agg (cmA k c s n v)] w fun e w' => e = .returned (.int .i64 (comE k c s n v)) ∧ Below w.heap.size w w' := by
  have bb : Below w.heap.size w (w.alloc (.cells (cmA k c s n v) 25)) := (Below.refl _ _).alloc (Nat.le_refl _) _
  have bc := Bc.made w k c s n v
  have hT := ht.below bb
  have hi := comInfo k c s n v
  generalize hW : w.alloc (.cells (cmA k c s n v) 25) = W at bb bc hT
  have hW' : w.alloc (.cells #[.int .i64 k, .int .i64 c, .int .i64 s, .int .i64 n, .int .i64 v] 25) = W := hW
  obtain ⟨c0, c1, c2, c3, c4⟩ := cmA_cells bc.row
  clear ht
  go_enter Tryz.func44, Tryz.ntmps44
  go_wp2_with fail
  clear hW hW'
  refine (isKind_any k _).mono ?_
  rintro e w1 ⟨rfl, rfl⟩
  by_cases h1 : 0 ≤ k ∧ k ≤ 3
  · rw [decide_eq_true h1]
    by_cases h2 : k = 0
    · subst h2
      go_wp2_with (refine wpList_load_row rfl 25 _ rfl w.heap.size rfl 25 _ (0, 0) _ bc.row Tryz.underlying25 rfl hi ?_)
      refine (noop_any c s n v _).mono ?_
      rintro e w2 ⟨rfl, b2⟩
      have d2 : Below w.heap.size w w2 := bb.trans (b2.mono bb.size)
      go_wp2
      go_ret
      exact ⟨rfl, d2⟩
    · obtain ⟨m, rfl⟩ := Int.eq_ofNat_of_zero_le h1.1
      have hk : 1 ≤ (m : Int) ∧ (m : Int) ≤ 3 := by omega
      go_wp2_with (refine wpList_load_row rfl 25 _ rfl w.heap.size rfl 25 _ (0, 0) _ bc.row Tryz.underlying25 rfl hi ?_)
      refine (inBounds_any (m : Int) c s n v _ hk hT).mono ?_
      rintro e w2 ⟨rfl, b2⟩
      have d2 : Below w.heap.size w w2 := bb.trans (b2.mono bb.size)
      have bc2 := bc.below b2
      have hT2 := hT.below b2
      clear c0 c1 c2 c3 c4 bc hT b2 bb
      by_cases h3 : InC c s n v
      · rw [decide_eq_true h3]
        obtain ⟨c0, c1, c2, c3, c4⟩ := cmA_cells bc2.row
        have hV := hT2.value m (by omega) (by omega)
        have k0 : (0 : Int) ≤ (m : Int) := by omega
        have k1 : (m : Int) < 4 := by omega
        have k2 : m < 4 := by omega
        clear bc2 hT2 h1 h2
        by_cases h4 : v ≤ (if m = 1 then 1073741824 else 0)
        · have HE : Hid (0 = comE (m : Int) c s n v) := by
            refine (comE_ok hk h3 ?_).symm
            unfold InC at h3
            split at h4 <;> omega
          clear h3 hk
          generalize (if m = 1 then (1073741824 : Int) else 0) = V at hV h4
          go_wp2_with fail
          go_quiet (fail)
          have e1 : Below w.heap.size w (w2.drewN nq) := below_drewN d2 nq
          generalize w2.drewN nq = w3 at e1 ⊢
          go_wp2
          go_ret
          exact ⟨ret_num HE.out, e1⟩
        · have HE : Hid (3 = comE (m : Int) c s n v) := by
            unfold InC at h3
            refine (comE_form ⟨?_, by omega⟩ (by unfold InC; omega) ?_).symm
            · split at h4 <;> omega
            · split at h4 <;> omega
          clear h3 hk
          generalize (if m = 1 then (1073741824 : Int) else 0) = V at hV h4
          go_wp2_with fail
          go_quiet (fail)
          have e1 : Below w.heap.size w (w2.drewN nq) := below_drewN d2 nq
          generalize w2.drewN nq = w3 at e1 ⊢
          go_wp2
          go_ret
          exact ⟨ret_num HE.out, e1⟩
      · rw [decide_eq_false h3]
        have HE : Hid (2 = comE (m : Int) c s n v) := (comE_range hk h3).symm
        clear h3
        go_wp2
        go_ret
        exact ⟨ret_num HE.out, d2⟩
  · rw [decide_eq_false h1]
    have HE : Hid (4 = comE k c s n v) := (comE_kind h1).symm
    go_wp2
    go_ret
    exact ⟨ret_num HE.out, bb⟩
end Go.Proofs.YtakgfdbjgeopdaaGreatDoor
/-
  Variables that hold a token.
-/
namespace Go.Proofs.YtakgfdbjgeopdaaGreatDoor
open Go.RowKit
set_option linter.unusedVariables false

/-- a variable that holds a token -/
structure Bt (w : World) (g : Nat) (c r u : Int) : Prop where
  lt : g < w.heap.size
  row : w.heap[g]? = some (.cells (tkA c r u) 23)
theorem Bt.made (w : World) (c r u : Int) : Bt (w.alloc (.cells (tkA c r u) 23)) w.heap.size c r u := ⟨by simp, heap_alloc_new _ _⟩
theorem Bt.below {w w' : World} {g : Nat} {c r u : Int} (h : Bt w g c r u) (hb : Below w.heap.size w w') : Bt w' g c r u :=
  ⟨Nat.lt_of_lt_of_le h.lt hb.size, (hb.block g h.lt).trans h.row⟩
theorem tokInfo (c r u : Int) : (Tryz.prog.info? 23).map (·.size) = some (tkA c r u).size := by show _ = some 3; kernel_rfl
theorem tkA_cells {w : World} {g : Nat} {c r u : Int} {ty : TypeId} {fr : Nat × Nat} (h : w.heap[g]? = some (.cells (tkA c r u) ty fr)) :
    w.cell? ⟨g, 0, none⟩ = some (.int .i64 c) ∧ w.cell? ⟨g, 1, none⟩ = some (.int .i64 r) ∧ w.cell? ⟨g, 2, none⟩ = some (.int .i64 u) :=
  ⟨cell_of_row _ _ 0 _ _ _ h, cell_of_row _ _ 1 _ _ _ h, cell_of_row _ _ 2 _ _ _ h⟩
end Go.Proofs.YtakgfdbjgeopdaaGreatDoor
/-
  Tokens that are compared.
-/
namespace Go.Proofs.YtakgfdbjgeopdaaGreatDoor
open Go.RowKit
set_option linter.unusedVariables false

set_option maxRecDepth 100000 in
theorem eql_tok (a b c a' b' c' : Int) : ∀ w, (binOp .eql 23 (.agg #[.int .i64 a, .int .i64 b, .int .i64 c]) (.agg #[.int .i64 a', .int .i64 b', .int .i64 c'])).run Tryz.prog w = .ok (.bool (decide (a = a' ∧ b = b' ∧ c = c'))) w := by
  intro w
  rw [run_eql_struct, run_equalIn_agg w 9999 _ _ _ (by kernel_rfl) (by kernel_rfl)]
  unfold Program.fieldsOf
  rw [Tryz.underlying23]
  have h3 := Tryz.underlying3
  simp [Op.eqFields, go_sem, h3]
  repeat' split
  all_goals simp_all
end Go.Proofs.YtakgfdbjgeopdaaGreatDoor
/-
  The walk of which tokens may be.
-/
namespace Go.Proofs.YtakgfdbjgeopdaaGreatDoor
open Go.RowKit
set_option linter.unusedVariables false

set_option maxHeartbeats 1000000 in
set_option maxRecDepth 100000 in
theorem mayBe_tok (c r u : Int) (w : World) :
    Calls Tryz.prog 40 #[.agg (tkA c r u)] w fun e w' => e = .returned (.bool (decide (TokB c r u))) ∧ Below w.heap.size w w' := by
  have bb : Below w.heap.size w (w.alloc (.cells (tkA c r u) 23)) := (Below.refl _ _).alloc (Nat.le_refl _) _
  have bt := Bt.made w c r u
  generalize hW : w.alloc (.cells (tkA c r u) 23) = W at bb bt
  obtain ⟨c0, c1, c2⟩ := tkA_cells bt.row
  clear bt
  go_enter Tryz.func40, Tryz.ntmps40
  go_wp2_with fail
  clear hW
  refine (upTo_any c 7 _).mono ?_
  rintro e w1 ⟨rfl, rfl⟩
  by_cases h1 : 0 ≤ c ∧ c ≤ 7
  · rw [decide_eq_true h1]
    go_wp2_with fail
    refine (upTo_any r 7 _).mono ?_
    rintro e w1 ⟨rfl, rfl⟩
    by_cases h2 : 0 ≤ r ∧ r ≤ 7
    · rw [decide_eq_true h2]
      go_wp2_with fail
      refine (upTo_any u 1048576 _).mono ?_
      rintro e w1 ⟨rfl, rfl⟩
      by_cases h3 : 0 ≤ u ∧ u ≤ 1048576
      · rw [decide_eq_true h3]
        have HB : Hid (true = decide (TokB c r u)) := (decide_eq_true ⟨h1, h2, h3⟩).symm
        go_wp2
        go_ret
        exact ⟨ret_bool HB.out, bb⟩
      · rw [decide_eq_false h3]
        have HB : Hid (false = decide (TokB c r u)) := (decide_eq_false (fun g => h3 g.2.2)).symm
        go_wp2
        go_ret
        exact ⟨ret_bool HB.out, bb⟩
    · rw [decide_eq_false h2]
      have HB : Hid (false = decide (TokB c r u)) := (decide_eq_false (fun g => h2 g.2.1)).symm
      go_wp2
      go_ret
      exact ⟨ret_bool HB.out, bb⟩
  · rw [decide_eq_false h1]
    have HB : Hid (false = decide (TokB c r u)) := (decide_eq_false (fun g => h1 g.1)).symm
    go_wp2
    go_ret
    exact ⟨ret_bool HB.out, bb⟩
end Go.Proofs.YtakgfdbjgeopdaaGreatDoor
/-
  The walks of a command's numbers: where they stand, how they are put behind bytes, and how they are read.
-/
namespace Go.Proofs.YtakgfdbjgeopdaaGreatDoor
open Go.RowKit
set_option linter.unusedVariables false

theorem oBelow_row {B : Nat} {a w : World} (h : Below B a w) {g : Nat} (hg : B ≤ g) (cs : Array Value) : Below B a (w.setRow g cs) :=
  h.trans ⟨rfl, rfl, rfl, by simp, fun k hk => setRow_other w g k cs (by omega)⟩
/-- pointers to the five numbers of a command that lies at g -/
def ptA (g : Nat) : Array Value := #[.pointer (some ⟨g, 0, none⟩), .pointer (some ⟨g, 1, none⟩), .pointer (some ⟨g, 2, none⟩), .pointer (some ⟨g, 3, none⟩), .pointer (some ⟨g, 4, none⟩)]
theorem ptA_one (g : Nat) : (ptA g).all (·.oneCell') = true := by simp [ptA, Value.oneCell']
def noPt : Array Value := #[.pointer none, .pointer none, .pointer none, .pointer none, .pointer none]
theorem ptInfo (g : Nat) : (Tryz.prog.info? 80).map (·.size) = some (ptA g).size := by show _ = some 5; kernel_rfl
set_option maxRecDepth 100000 in
theorem pt_index (g : Nat) (j : Nat) (hj : j < 5) : ∀ W, (Instr.index 80 (.agg (ptA g)) (.int .i64 (j : Int))).run Tryz.prog W = .ok (.pointer (some ⟨g, j, none⟩)) W := by
  intro W
  rcases (by omega : j = 0 ∨ j = 1 ∨ j = 2 ∨ j = 3 ∨ j = 4) with rfl | rfl | rfl | rfl | rfl
  all_goals kernel_rfl

set_option maxHeartbeats 1000000 in
set_option maxRecDepth 100000 in
theorem numbersOf_any (g : Nat) (w : World) :
    Calls Tryz.prog 45 #[.pointer (some ⟨g, 0, none⟩)] w fun e w' => e = .returned (.agg (ptA g)) ∧ Below w.heap.size w w' := by
  have bb : Below w.heap.size w (w.alloc (.cells noPt 80)) := (Below.refl _ _).alloc (Nat.le_refl _) _
  have rr := heap_alloc_new w (.cells noPt 80)
  have hi := ptInfo g
  go_enter Tryz.func45, Tryz.ntmps45
  go_wp2_with fail
  refine wp_region_quiet_tail 16 (by kernel_rfl) (by kernel_rfl) ?_
  simp only [List.take_succ_cons, List.take_zero, List.drop_succ_cons, List.drop_zero]
  repeat (go_big_quiet_step (fail))
  refine wpQuiet_nil ?_
  have rr' : (w.alloc (.cells noPt 80)).drew.heap[w.heap.size]? = some (.cells noPt 80) := rr
  have bb' : Below w.heap.size w (w.alloc (.cells noPt 80)).drew := bb.drew
  have hn : noPt = #[.pointer none, .pointer none, .pointer none, .pointer none, .pointer none] := rfl
  rw [← hn]
  generalize (w.alloc (.cells noPt 80)).drew = W at rr' bb'
  go_wp2_with (refine wpList_store_row rfl 80 (.tmp 2) (.tmp 18) rfl w.heap.size (ptA g) rfl rfl 80 _ rr' hi rfl (ptA_one g) ?_)
  have r2 := setRow_heap W w.heap.size _ (ptA g) 80 _ rr'
  exact bodyPost_ret (v := .agg (ptA g)) (results_cell_row rfl _ _ w.heap.size 80 _ (0, 0) _ rfl r2 Tryz.underlying80 rfl hi) rfl ⟨rfl, oBelow_row bb' (Nat.le_refl _) _⟩

theorem Sl.one2O (w : World) (b b' : Int) (e : TypeId) {g : Nat} (hg : g = w.heap.size) (hb : 0 ≤ b ∧ b < 256) (he : b' = b) : Sl (w.alloc (.cells #[.int .u8 b'] e)) (.slice (some ⟨g, 0, none⟩) 1 1) [b] := by
  subst he; exact Sl.one w b' e hg hb
theorem put_len (l : List Int) (n : Int) (j : Nat) (hl : l.length ≤ 100000) : (l ++ (headL n).take j).length + 1 ≤ 140737488355328 := by
  have : ((headL n).take j).length ≤ 4 := by rw [List.length_take]; exact Nat.min_le_right _ _
  rw [List.length_append]; omega

set_option maxHeartbeats 1000000 in
set_option maxRecDepth 100000 in
theorem putNumber_any (v : Value) (l : List Int) (n : Int) (B : Nat) (w : World) (ho : w.ownsRow B 5 1 v l.length (l.map (Value.int .u8))) (hB : B ≤ w.heap.size) (hl : l.length ≤ 100000) (n0 : 0 ≤ n) (n1 : n < 2147483648) :
    Calls Tryz.prog 46 #[v, .int .i64 n] w fun e w' => ∃ v', e = .returned v' ∧ w'.ownsRow B 5 1 v' (l ++ headL n).length ((l ++ headL n).map (Value.int .u8)) ∧ Below B w w' := by
  have HO0 : Hid (w.ownsRow B 5 1 v (l ++ (headL n).take 0).length ((l ++ (headL n).take 0).map (Value.int .u8))) := by unfold Hid; simpa using ho
  clear ho
  go_enter Tryz.func46, Tryz.ntmps46
  go_wp2_with fail
  go_loopw [0, 5] (fun v iv wr => ∃ j : Nat, j ≤ 4 ∧ iv = .int .i64 (3 - (j : Int)) ∧ wr.ownsRow B 5 1 v (l ++ (headL n).take j).length ((l ++ (headL n).take j).map (Value.int .u8)) ∧ Below B w wr) (fun _ iv _ => (intOf iv + 1).toNat)
  case atStart => exact ⟨0, by omega, rfl, HO0.out, Below.refl _ _⟩
  case round =>
    obtain ⟨j, hj, rfl, hown, hbel⟩ := hrel
    clear HO0
    have hlt := hown.lt
    have hz : B ≤ wr.heap.size := Nat.le_trans hB hbel.size
    have HL := put_len l n
    by_cases hj4 : j < 4
    · rcases (by omega : j = 0 ∨ j = 1 ∨ j = 2 ∨ j = 3) with rfl | rfl | rfl | rfl
      · rw [show (3 : Int) - ((0 : Nat) : Int) = 3 from rfl]
        have hx : Hid (l ++ (headL n).take 1 = l ++ (headL n).take 0 ++ [n / 16777216 % 256]) := by unfold Hid; rw [List.append_assoc]; rfl
        have hLL := HL 0 hl
        clear HL
        generalize l ++ (headL n).take 0 = L at hown hx hLL
        go_wp2_with (at_builtin; refine wpList_append_sl _ rfl _ _ 26 rfl B 5 Tryz.underlying26 info5 _ _ rfl rfl L [n / 16777216 % 256] (hown.alloc _) (Sl.one2O _ (n / 16777216 % 256) _ _ rfl (by omega) (by omega)) hLL (by simp; omega) ?_)
        intro v2 w2 ho2 hg2
        have hb2 : Below B w w2 := (hbel.alloc hz _).grown hg2 (by simp; omega) (fun k hk => (hlt k hk).1)
        have HO2 : Hid (w2.ownsRow B 5 1 v2 (l ++ (headL n).take 1).length ((l ++ (headL n).take 1).map (Value.int .u8))) := by
          unfold Hid
          rw [hx.out]
          simpa using ho2
        clear ho2 hg2 hown hlt hbel hLL hx
        go_wp2
        go_roundw
        case rel => exact ⟨1, by omega, rfl, HO2.out, hb2⟩
        case measure => simp [intOf]
      · rw [show (3 : Int) - ((1 : Nat) : Int) = 2 from rfl]
        have hx : Hid (l ++ (headL n).take 2 = l ++ (headL n).take 1 ++ [n / 65536 % 256]) := by unfold Hid; rw [List.append_assoc]; rfl
        have hLL := HL 1 hl
        clear HL
        generalize l ++ (headL n).take 1 = L at hown hx hLL
        go_wp2_with (at_builtin; refine wpList_append_sl _ rfl _ _ 26 rfl B 5 Tryz.underlying26 info5 _ _ rfl rfl L [n / 65536 % 256] (hown.alloc _) (Sl.one2O _ (n / 65536 % 256) _ _ rfl (by omega) (by omega)) hLL (by simp; omega) ?_)
        intro v2 w2 ho2 hg2
        have hb2 : Below B w w2 := (hbel.alloc hz _).grown hg2 (by simp; omega) (fun k hk => (hlt k hk).1)
        have HO2 : Hid (w2.ownsRow B 5 1 v2 (l ++ (headL n).take 2).length ((l ++ (headL n).take 2).map (Value.int .u8))) := by
          unfold Hid
          rw [hx.out]
          simpa using ho2
        clear ho2 hg2 hown hlt hbel hLL hx
        go_wp2
        go_roundw
        case rel => exact ⟨2, by omega, rfl, HO2.out, hb2⟩
        case measure => simp [intOf]
      · rw [show (3 : Int) - ((2 : Nat) : Int) = 1 from rfl]
        have hx : Hid (l ++ (headL n).take 3 = l ++ (headL n).take 2 ++ [n / 256 % 256]) := by unfold Hid; rw [List.append_assoc]; rfl
        have hLL := HL 2 hl
        clear HL
        generalize l ++ (headL n).take 2 = L at hown hx hLL
        go_wp2_with (at_builtin; refine wpList_append_sl _ rfl _ _ 26 rfl B 5 Tryz.underlying26 info5 _ _ rfl rfl L [n / 256 % 256] (hown.alloc _) (Sl.one2O _ (n / 256 % 256) _ _ rfl (by omega) (by omega)) hLL (by simp; omega) ?_)
        intro v2 w2 ho2 hg2
        have hb2 : Below B w w2 := (hbel.alloc hz _).grown hg2 (by simp; omega) (fun k hk => (hlt k hk).1)
        have HO2 : Hid (w2.ownsRow B 5 1 v2 (l ++ (headL n).take 3).length ((l ++ (headL n).take 3).map (Value.int .u8))) := by
          unfold Hid
          rw [hx.out]
          simpa using ho2
        clear ho2 hg2 hown hlt hbel hLL hx
        go_wp2
        go_roundw
        case rel => exact ⟨3, by omega, rfl, HO2.out, hb2⟩
        case measure => simp [intOf]
      · rw [show (3 : Int) - ((3 : Nat) : Int) = 0 from rfl]
        have hx : Hid (l ++ (headL n).take 4 = l ++ (headL n).take 3 ++ [n % 256]) := by unfold Hid; rw [List.append_assoc]; rfl
        have hLL := HL 3 hl
        clear HL
        generalize l ++ (headL n).take 3 = L at hown hx hLL
        go_wp2_with (at_builtin; refine wpList_append_sl _ rfl _ _ 26 rfl B 5 Tryz.underlying26 info5 _ _ rfl rfl L [n % 256] (hown.alloc _) (Sl.one2O _ (n % 256) _ _ rfl (by omega) (by omega)) hLL (by simp; omega) ?_)
        intro v2 w2 ho2 hg2
        have hb2 : Below B w w2 := (hbel.alloc hz _).grown hg2 (by simp; omega) (fun k hk => (hlt k hk).1)
        have HO2 : Hid (w2.ownsRow B 5 1 v2 (l ++ (headL n).take 4).length ((l ++ (headL n).take 4).map (Value.int .u8))) := by
          unfold Hid
          rw [hx.out]
          simpa using ho2
        clear ho2 hg2 hown hlt hbel hLL hx
        go_wp2
        go_roundw
        case rel => exact ⟨4, by omega, rfl, HO2.out, hb2⟩
        case measure => simp [intOf]
    · obtain rfl : j = 4 := by omega
      rw [show (3 : Int) - ((4 : Nat) : Int) = -1 from rfl]
      have HO : Hid _ := hown
      clear hown hlt HL
      go_wp2
      go_ret
      exact ⟨_, rfl, HO.out, hbel⟩
theorem Sl.spotO {w : World} {a : Option Addr} {n cap : Nat} {l : List Int} (h : Sl w (.slice a n cap) l) (k : Nat) (hk : k < l.length) : ∃ bd od, a = some ⟨bd, od, none⟩ ∧ bd < w.heap.size ∧ w.cell? ⟨bd, od + k, none⟩ = some (.int .u8 (l.getD k 0)) := by
  obtain ⟨⟨a', cap', e, hc, hn, h1⟩, hla, hba⟩ := h
  simp only [Value.slice.injEq] at e
  obtain ⟨rfl, rfl, rfl⟩ := e
  rcases h1 with rfl | ⟨b, off, rfl, hb, hcell⟩
  · simp at hk
  · exact ⟨b, off, rfl, hb, hcell k hk⟩
end Go.Proofs.YtakgfdbjgeopdaaGreatDoor
/-
  The walk of Encode.
-/
namespace Go.Proofs.YtakgfdbjgeopdaaGreatDoor
open Go.RowKit
set_option linter.unusedVariables false

/-- the bytes of the first numbers -/
def encK (l : List Int) (j : Nat) : List Int := (l.take j).flatMap headL
theorem encK_succ (l : List Int) (j : Nat) (h : j < l.length) : encK l (j + 1) = encK l j ++ headL (l.getD j 0) := by
  unfold encK
  rw [List.take_succ_eq_append_getElem h, List.flatMap_append, getD_at h]
  simp
theorem encK_length (l : List Int) (j : Nat) : (encK l j).length ≤ 4 * j := by
  unfold encK
  induction l generalizing j with
  | nil => simp
  | cons x l ih =>
    cases j with
    | zero => simp
    | succ j =>
      have := ih j
      rw [List.take_succ_cons, List.flatMap_cons, List.length_append, headL_length]
      omega
theorem encK_five (k c s n v : Int) : encK [k, c, s, n, v] 5 = comL k c s n v := rfl
/-- what Encode answers -/
def encL (k c s n v : Int) : List Int := if comE k c s n v = 0 then comL k c s n v else []
theorem encL_ok {k c s n v : Int} (h : comE k c s n v = 0) : encL k c s n v = comL k c s n v := if_pos h
theorem encL_no {k c s n v : Int} (h : ¬ comE k c s n v = 0) : encL k c s n v = [] := if_neg h
def zer20 : Array Value := (List.replicate 20 (Value.int .u8 0)).toArray
theorem make20 (w : World) : (Instr.makeSlice 26 (.int .i64 0) (.int .i64 20)).run Tryz.prog w = .ok (.slice (some ⟨w.heap.size, 0, none⟩) 0 20) (w.alloc (.cells zer20 5)) := by
  obtain ⟨i, hi, hz, hsz, hby⟩ := info_parts info5
  rw [run_makeSlice (P := Tryz.prog) w 26 5 i (.int .u8 0) Tryz.underlying26 hi hz .i64 .i64 0 20 (by omega) (by omega) (by rw [hsz]; decide) (by rw [hby]; decide) (by omega), hsz]
  have e : madeCells (Value.int .u8 0).cells ((20 : Int).toNat * 1) = zer20 := by kernel_rfl
  rw [e]
  rfl
theorem Bc.num {w : World} {g : Nat} {k c s n v : Int} (h : Bc w g k c s n v) (j : Nat) (hj : j < 5) : w.cell? ⟨g, j, none⟩ = some (.int .i64 ([k, c, s, n, v].getD j 0)) := by
  obtain ⟨c0, c1, c2, c3, c4⟩ := cmA_cells h.row
  rcases (by omega : j = 0 ∨ j = 1 ∨ j = 2 ∨ j = 3 ∨ j = 4) with rfl | rfl | rfl | rfl | rfl
  · exact c0
  · exact c1
  · exact c2
  · exact c3
  · exact c4

theorem owns_keepO {w w' : World} {base e : Nat} {v : Value} {n : Nat} {xs : List Value} (h : w.ownsRow base e 1 v n xs) (hk : ∀ k, v.ownBlock = some k → w'.heap[k]? = w.heap[k]?) : w'.ownsRow base e 1 v n xs := by
  refine ⟨h.1, ?_⟩
  rcases h.2 with h2 | ⟨g, cap, cur, hv, hb, hg, hr⟩
  · exact .inl h2
  · exact .inr ⟨g, cap, cur, hv, hb, (hk g (by rw [hv]; rfl)).trans hg, hr⟩
theorem owns_belowO {w w' : World} {base e : Nat} {v : Value} {n : Nat} {xs : List Value} (h : w.ownsRow base e 1 v n xs) (hb : Below w.heap.size w w') : w'.ownsRow base e 1 v n xs :=
  owns_keepO h fun k hk => hb.block k (h.lt k hk).2

set_option maxHeartbeats 1000000 in
set_option maxRecDepth 100000 in
theorem encode_any (k c s n v : Int) (w : World) (ht : NTab w) :
    Calls Tryz.prog 18 #[.agg (cmA k c s n v)] w fun e w' => ∃ v', e = .returned (.tuple #[v', .int .i64 (comE k c s n v)]) ∧ w'.ownsRow w.heap.size 5 1 v' (encL k c s n v).length ((encL k c s n v).map (Value.int .u8)) ∧ Below w.heap.size w w' := by
  have bb : Below w.heap.size w (w.alloc (.cells (cmA k c s n v) 25)) := (Below.refl _ _).alloc (Nat.le_refl _) _
  have bc := Bc.made w k c s n v
  have hT := ht.below bb
  have hi := comInfo k c s n v
  generalize hW : w.alloc (.cells (cmA k c s n v) 25) = W at bb bc hT
  clear ht
  go_enter Tryz.func18, Tryz.ntmps18
  go_wp2_with (refine wpList_load_row rfl 25 _ rfl w.heap.size rfl 25 _ (0, 0) _ bc.row Tryz.underlying25 rfl hi ?_)
  clear hW
  refine (oCheck_any k c s n v W hT).mono ?_
  rintro e w1 ⟨rfl, b1⟩
  have d1 : Below w.heap.size w w1 := bb.trans (b1.mono bb.size)
  replace bc := bc.below b1
  clear b1 bb hT
  by_cases h1 : comE k c s n v = 0
  · have HE : Hid (encL k c s n v = encK [k, c, s, n, v] 5) := (encL_ok h1).trans (encK_five k c s n v).symm
    have hz := comE_zero h1
    have HS : Hid (∀ j, j < 5 → 0 ≤ [k, c, s, n, v].getD j 0 ∧ [k, c, s, n, v].getD j 0 < 2147483648) := by
      unfold Hid
      obtain ⟨hk, hc⟩ := hz
      unfold InC at hc
      intro j hj
      rcases (by omega : j = 0 ∨ j = 1 ∨ j = 2 ∨ j = 3 ∨ j = 4) with rfl | rfl | rfl | rfl | rfl
      · show 0 ≤ k ∧ k < 2147483648; omega
      · show 0 ≤ c ∧ c < 2147483648; omega
      · show 0 ≤ s ∧ s < 2147483648; omega
      · show 0 ≤ n ∧ n < 2147483648; omega
      · show 0 ≤ v ∧ v < 2147483648; omega
    have HL : Hid ([k, c, s, n, v].length = 5) := rfl
    have HZ : Hid (comE k c s n v = 0) := h1
    rw [h1]
    clear hz h1
    have hmk := make20 w1
    have b2 : Below w1.heap.size w1 (w1.alloc (.cells zer20 5)) := (Below.refl _ _).alloc (Nat.le_refl _) _
    have ho0 : (w1.alloc (.cells zer20 5)).ownsRow w1.heap.size 5 1 (.slice (some ⟨w1.heap.size, 0, none⟩) 0 20) ([] : List Int).length (([] : List Int).map (Value.int .u8)) :=
      ⟨rfl, .inr ⟨w1.heap.size, 20, zer20, rfl, Nat.le_refl _, heap_alloc_new _ _, by decide, by simp [maxLen], rfl, rfl⟩⟩
    have HO0 : Hid _ := ho0
    clear ho0
    generalize w1.alloc (.cells zer20 5) = W2 at hmk b2 HO0
    go_wp2_with fail
    refine (numbersOf_any w.heap.size W2).mono ?_
    rintro e w3 ⟨rfl, b3⟩
    have HO3 : Hid (w3.ownsRow w1.heap.size 5 1 (.slice (some ⟨w1.heap.size, 0, none⟩) 0 20) ([] : List Int).length (([] : List Int).map (Value.int .u8))) := owns_belowO HO0.out b3
    have d3 : Below w1.heap.size w1 w3 := b2.trans (b3.mono b2.size)
    have z3 := d3.size
    clear HO0 b2 b3 hmk
    have hlt := bc.lt
    have hN : ∀ wr, Below w1.heap.size w1 wr → ∀ j, j < 5 → wr.cell? ⟨w.heap.size, j, none⟩ = some (.int .i64 ([k, c, s, n, v].getD j 0)) := fun wr hb j hj => (bc.below hb).num j hj
    have HN : Hid _ := hN
    clear bc hN
    generalize [k, c, s, n, v] = L at HE HS HN HL
    have hBz : w1.heap.size ≤ w1.heap.size := Nat.le_refl _
    have hwB : w.heap.size ≤ w1.heap.size := d1.size
    generalize hB : w1.heap.size = B at d3 z3 HO3 HN hlt hwB
    replace hBz : B ≤ w1.heap.size := by omega
    clear hB
    have hix := pt_index w.heap.size
    go_wp2_with fail
    go_loopw [5, 15] (fun v iv wr => ∃ j : Nat, j ≤ 5 ∧ iv = .int .i64 (j : Int) ∧ wr.ownsRow B 5 1 v (encK L j).length ((encK L j).map (Value.int .u8)) ∧ Below B w1 wr) (fun _ iv _ => (5 - intOf iv).toNat)
    case atStart => exact ⟨0, by omega, rfl, HO3.out, d3⟩
    case round =>
      obtain ⟨j, hj, rfl, hown, hbel⟩ := hrel
      by_cases hj5 : j < 5
      · have hji : (j : Int) < 5 := by omega
        have hij := hix j hj5
        have hcj := HN.out _ hbel j hj5
        have hsj := HS.out j hj5
        have HK : Hid (encK L (j + 1) = encK L j ++ headL (L.getD j 0)) := encK_succ L j (by rw [HL.out]; omega)
        have HQ := encK_length L j
        have HO : Hid _ := hown
        have hz : B ≤ wr.heap.size := Nat.le_trans hBz hbel.size
        clear hown hix HO3
        generalize L.getD j 0 = X at hcj hsj HK
        go_wp2_with fail
        refine (putNumber_any _ _ X B wr HO.out hz (by omega) hsj.1 hsj.2).mono ?_
        rintro e w5 ⟨v5, rfl, o5, b5⟩
        have HO5 : Hid (w5.ownsRow B 5 1 v5 (encK L (j + 1)).length ((encK L (j + 1)).map (Value.int .u8))) := by unfold Hid; rw [HK.out]; exact o5
        have d5 := hbel.trans b5
        clear o5 b5 HO HK HQ hcj hij hsj
        go_wp2
        go_roundw
        case rel => exact ⟨j + 1, by omega, by go_num, HO5.out, d5⟩
        case measure => simp [intOf]; omega
      · obtain rfl : j = 5 := by omega
        rw [show ((5 : Nat) : Int) = 5 from rfl]
        have HO : Hid _ := hown
        clear hown hix HO3
        go_wp2
        go_ret2
        rw [HE.out, HZ.out]
        exact ⟨_, rfl, owns_lower HO.out hwB, d1.trans (hbel.mono hwB)⟩
  · have HE : Hid (encL k c s n v = []) := encL_no h1
    go_wp2
    go_ret2
    rw [HE.out]
    exact ⟨_, rfl, World.ownsRow_nil _ _ _ _, d1⟩
theorem oRow2 {P : Program} {fn : Func} {p u : Tmp} {ty : TypeId} (h : fn.results = #[.cell p ty, .tmp u]) (tmps : Array Value) (w : World) (g : Nat) (t : TypeId) (cs : Array Value) (fr : Nat × Nat) (d : TypeDesc)
    (hp : tmps.getD p undef = .pointer (some ⟨g, 0, none⟩)) (hg : w.heap[g]? = some (.cells cs t fr))
    (hu : P.underlying ty = some d) (hd : (match d with | .struct _ | .array _ _ => true | _ => false) = true) (hi : (P.info? ty).map (·.size) = some cs.size) :
    (results fn tmps).run P w = .ok (.tuple #[.agg cs, tmps.getD u undef]) w := by
  have hp' : tmps[p]?.getD undef = .pointer (some ⟨g, 0, none⟩) := by simpa using hp
  simp [results, h, hp', asAddr, run_loadVar_row w g t ty cs fr d hg hu hd hi]
theorem cmA_one (k c s n v : Int) : (cmA k c s n v).all (·.oneCell') = true := by simp [cmA, Value.oneCell']
end Go.Proofs.YtakgfdbjgeopdaaGreatDoor
