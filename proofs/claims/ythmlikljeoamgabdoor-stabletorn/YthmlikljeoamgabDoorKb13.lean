/-
  The walk of sha.Same.
-/
import Derived.StillTailTactics
import Derived.Test.YthmlikljeoamgabDoorKb2
import Derived.Test.YthmlikljeoamgabDoorKb3
import Derived.Test.YthmlikljeoamgabDoorKb11
namespace Go.Proofs.YthmlikljeoamgabDoor
open Go.RowKit



def dif (la lb : List Int) : Nat → Int
  | 0 => 0
  | k + 1 => bits .or .u8 (dif la lb k) (bits .xor .u8 (la.getD k 0) (lb.getD k 0))

theorem or_zero {a b : Nat} : a ||| b = 0 ↔ a = 0 ∧ b = 0 := by
  constructor
  · intro h
    have h1 : ∀ i, (a ||| b).testBit i = false := by intro i; rw [h]; simp
    constructor
    · apply Nat.eq_of_testBit_eq; intro i; have := h1 i; rw [Nat.testBit_or] at this; simp at this; simp [this.1]
    · apply Nat.eq_of_testBit_eq; intro i; have := h1 i; rw [Nat.testBit_or] at this; simp at this; simp [this.2]
  · rintro ⟨rfl, rfl⟩; rfl

theorem xor_zero {a b : Nat} : a ^^^ b = 0 ↔ a = b := by
  constructor
  · intro h
    have h1 : ∀ i, (a ^^^ b).testBit i = false := by intro i; rw [h]; simp
    apply Nat.eq_of_testBit_eq; intro i; have := h1 i; rw [Nat.testBit_xor] at this; simpa using this
  · rintro rfl; simp

theorem dif_zero {la lb : List Int} (ha : ∀ x ∈ la, 0 ≤ x ∧ x < 256) (hb : ∀ x ∈ lb, 0 ≤ x ∧ x < 256) (k : Nat) :
    0 ≤ dif la lb k ∧ dif la lb k < 256 ∧ (dif la lb k = 0 ↔ ∀ i, i < k → la.getD i 0 = lb.getD i 0) := by
  induction k with
  | zero => simp [dif]
  | succ k ih =>
    obtain ⟨h1, h2, h3⟩ := ih
    have hx := getD_byte ha k
    have hy := getD_byte hb k
    have e1 := u8_xor _ _ hx.1 hx.2 hy.1 hy.2
    have hlt : (la.getD k 0).toNat ^^^ (lb.getD k 0).toNat < 256 := Nat.xor_lt_two_pow (n := 8) (by omega) (by omega)
    have e2 := u8_or (dif la lb k) (((la.getD k 0).toNat ^^^ (lb.getD k 0).toNat : Nat) : Int) h1 h2 (by omega) (by omega)
    have e3 : dif la lb (k + 1) = (((dif la lb k).toNat ||| ((la.getD k 0).toNat ^^^ (lb.getD k 0).toNat) : Nat) : Int) := by
      show bits .or .u8 (dif la lb k) (bits .xor .u8 (la.getD k 0) (lb.getD k 0)) = _
      rw [e1, e2]; simp
    have hlt2 : (dif la lb k).toNat ||| ((la.getD k 0).toNat ^^^ (lb.getD k 0).toNat) < 256 := Nat.or_lt_two_pow (n := 8) (by omega) hlt
    refine ⟨by rw [e3]; omega, by rw [e3]; omega, ?_⟩
    have e4 : dif la lb (k + 1) = 0 ↔ dif la lb k = 0 ∧ la.getD k 0 = lb.getD k 0 := by
      rw [e3]
      have := @or_zero (dif la lb k).toNat ((la.getD k 0).toNat ^^^ (lb.getD k 0).toNat)
      have h5 := @xor_zero (la.getD k 0).toNat (lb.getD k 0).toNat
      rw [h5] at this
      constructor
      · intro h
        have := this.1 (by omega)
        omega
      · intro h
        have := this.2 (by omega)
        omega
    rw [e4, h3]
    constructor
    · intro h i hi
      rcases Nat.lt_or_ge i k with h' | h'
      · exact h.1 i h'
      · obtain rfl : i = k := by omega
        exact h.2
    · intro h
      exact ⟨fun i hi => h i (by omega), h k (by omega)⟩

theorem dif_all {la lb : List Int} (ha : ∀ x ∈ la, 0 ≤ x ∧ x < 256) (hb : ∀ x ∈ lb, 0 ≤ x ∧ x < 256) (hl : la.length = lb.length) : (dif la lb lb.length == 0) = decide (la = lb) := by
  rw [Bool.eq_iff_iff, decide_eq_true_iff, beq_iff_eq, (dif_zero ha hb _).2.2]
  constructor
  · intro h
    apply List.ext_getElem hl
    intro i h1 h2
    have := h i h2
    rwa [getD_at h1, getD_at h2] at this
  · rintro rfl _ _; rfl

theorem same_any (va vb : Value) (la lb : List Int) (w : World) (ha : Sl w va la) (hb : Sl w vb lb) :
    Calls Tryd.prog 47 #[va, vb] w fun e w' => e = .returned (.bool (decide (la = lb))) ∧ ∃ n, w' = w.drewN n := by
  obtain ⟨⟨a, cap, rfl, hc, hn, h1⟩, hla, hba⟩ := ha
  obtain ⟨⟨b, cap', rfl, hc', hn', h1'⟩, hlb, hbb⟩ := hb
  by_cases hl : la.length = lb.length
  · rcases h1 with rfl | ⟨ba, oa, rfl, _, hca⟩
    · obtain rfl : lb = [] := List.eq_nil_of_length_eq_zero (by simpa using hl.symm)
      go_enter Tryd.func47, Tryd.ntmps47
      go_wp2
      refine wp_loop_rounds 1 ?_
      rw [rounds_succ]
      go_wp2
      go_ret
      exact ⟨rfl, 0, rfl⟩
    · rcases h1' with rfl | ⟨bb, ob, rfl, _, hcb⟩
      · obtain rfl : la = [] := List.eq_nil_of_length_eq_zero (by simpa using hl)
        go_enter Tryd.func47, Tryd.ntmps47
        go_wp2
        refine wp_loop_rounds 1 ?_
        rw [rounds_succ]
        go_wp2
        go_ret
        exact ⟨rfl, 0, rfl⟩
      · have HD : Hid ((dif la lb lb.length == 0) = decide (la = lb)) := dif_all hba hbb hl
        go_enter Tryd.func47, Tryd.ntmps47
        go_wp2
        go_loopw [5, 14] (fun d i wr => ∃ k n : Nat, k ≤ lb.length ∧ i = .int .i64 k ∧ d = .int .u8 (dif la lb k) ∧ wr = w.drewN n) (fun _ i _ => lb.length - (intOf i).toNat)
        case atStart => exact ⟨0, 0, Nat.zero_le _, rfl, rfl, rfl⟩
        case round =>
          obtain ⟨k, n, hk, rfl, rfl, rfl⟩ := hrel
          by_cases hlt : k < lb.length
          · have hx := hca k (by omega)
            have hy := hcb k hlt
            clear hca hcb hba hbb
            have hka : k < la.length := by omega
            go_wp2
            go_quiet (fail)
            go_wp2
            go_roundw
            case rel => exact ⟨k + 1, _, by omega, by go_num, by simp only [dif, getD_at hka, getD_at hlt], rfl⟩
            case measure => simp [intOf]; omega
          · obtain rfl : k = lb.length := by omega
            clear hca hcb
            go_wp2
            go_ret
            exact ⟨ret_bool HD.out, n, rfl⟩
  · have hne : ((la.length : Int) == (lb.length : Int)) = false := by simp; omega
    have hdd : decide (la = lb) = false := decide_eq_false (fun e => hl (by rw [e]))
    go_enter Tryd.func47, Tryd.ntmps47
    go_wp2
    go_ret
    exact ⟨ret_bool hdd.symm, 0, rfl⟩

end Go.Proofs.YthmlikljeoamgabDoor
/-
  The walk of Check.
-/
namespace Go.Proofs.YthmlikljeoamgabDoor
open Go.RowKit
set_option linter.unusedVariables false

theorem NTab.value1 {w : World} (h : NTab w) : w.cell? ⟨0, 1 * 3 + 2, none⟩ = some (.int .i64 1073741824) := h.cell 5 (by omega)
theorem NTab.value {w : World} (h : NTab w) (k : Nat) (h0 : 1 ≤ k) (h1 : k ≤ 3) : w.cell? ⟨0, k * 3 + 2, none⟩ = some (.int .i64 (if k = 1 then 1073741824 else 0)) := by
  rcases (by omega : k = 1 ∨ k = 2 ∨ k = 3) with rfl | rfl | rfl
  · exact h.cell 5 (by omega)
  · exact h.cell 8 (by omega)
  · exact h.cell 11 (by omega)
set_option maxHeartbeats 1000000 in
set_option maxRecDepth 100000 in
theorem oCheck_any (k c s n v : Int) (w : World) (ht : NTab w) :
    Calls Tryd.prog 40 #[.agg (cmA k c s n v)] w fun e w' => e = .returned (.int .i64 (comE k c s n v)) ∧ Below w.heap.size w w' := by
  have bb : Below w.heap.size w (w.alloc (.cells (cmA k c s n v) 55)) := (Below.refl _ _).alloc (Nat.le_refl _) _
  have bc := Bc.made w k c s n v
  have hT := ht.below bb
  have hi := comInfo k c s n v
  generalize hW : w.alloc (.cells (cmA k c s n v) 55) = W at bb bc hT
  have hW' : w.alloc (.cells #[.int .i64 k, .int .i64 c, .int .i64 s, .int .i64 n, .int .i64 v] 55) = W := hW
  obtain ⟨c0, c1, c2, c3, c4⟩ := cmA_cells bc.row
  clear ht
  go_enter Tryd.func40, Tryd.ntmps40
  go_wp2_with fail
  clear hW hW'
  refine (isKind_any k _).mono ?_
  rintro e w1 ⟨rfl, rfl⟩
  by_cases h1 : 0 ≤ k ∧ k ≤ 3
  · rw [decide_eq_true h1]
    by_cases h2 : k = 0
    · subst h2
      go_wp2_with (refine wpList_load_row rfl 55 _ rfl w.heap.size rfl 55 _ (0, 0) _ bc.row Tryd.underlying55 rfl hi ?_)
      refine (noop_any c s n v _).mono ?_
      rintro e w2 ⟨rfl, b2⟩
      have d2 : Below w.heap.size w w2 := bb.trans (b2.mono bb.size)
      go_wp2
      go_ret
      exact ⟨rfl, d2⟩
    · obtain ⟨m, rfl⟩ := Int.eq_ofNat_of_zero_le h1.1
      have hk : 1 ≤ (m : Int) ∧ (m : Int) ≤ 3 := by omega
      go_wp2_with (refine wpList_load_row rfl 55 _ rfl w.heap.size rfl 55 _ (0, 0) _ bc.row Tryd.underlying55 rfl hi ?_)
      refine (inBounds_any (m : Int) c s n v _ hk hT).mono ?_
      rintro e w2 ⟨rfl, b2⟩
      have d2 : Below w.heap.size w w2 := bb.trans (b2.mono bb.size)
      have bc2 := bc.below b2
      have hT2 := hT.below b2
      clear c0 c1 c2 c3 c4 bc hT b2 bb
      by_cases h3 : InC c s n v
      · rw [decide_eq_true h3]
        obtain ⟨c0, c1, c2, c3, c4⟩ := cmA_cells bc2.row
        have hV := hT2.value m (by omega) (by omega)
        have k0 : (0 : Int) ≤ (m : Int) := by omega
        have k1 : (m : Int) < 4 := by omega
        have k2 : m < 4 := by omega
        clear bc2 hT2 h1 h2
        by_cases h4 : v ≤ (if m = 1 then 1073741824 else 0)
        · have HE : Hid (0 = comE (m : Int) c s n v) := by
            refine (comE_ok hk h3 ?_).symm
            unfold InC at h3
            split at h4 <;> omega
          clear h3 hk
          generalize (if m = 1 then (1073741824 : Int) else 0) = V at hV h4
          go_wp2_with fail
          go_quiet (fail)
          have e1 : Below w.heap.size w (w2.drewN nq) := below_drewN d2 nq
          generalize w2.drewN nq = w3 at e1 ⊢
          go_wp2
          go_ret
          exact ⟨ret_num HE.out, e1⟩
        · have HE : Hid (3 = comE (m : Int) c s n v) := by
            unfold InC at h3
            refine (comE_form ⟨?_, by omega⟩ (by unfold InC; omega) ?_).symm
            · split at h4 <;> omega
            · split at h4 <;> omega
          clear h3 hk
          generalize (if m = 1 then (1073741824 : Int) else 0) = V at hV h4
          go_wp2_with fail
          go_quiet (fail)
          have e1 : Below w.heap.size w (w2.drewN nq) := below_drewN d2 nq
          generalize w2.drewN nq = w3 at e1 ⊢
          go_wp2
          go_ret
          exact ⟨ret_num HE.out, e1⟩
      · rw [decide_eq_false h3]
        have HE : Hid (2 = comE (m : Int) c s n v) := (comE_range hk h3).symm
        clear h3
        go_wp2
        go_ret
        exact ⟨ret_num HE.out, d2⟩
  · rw [decide_eq_false h1]
    have HE : Hid (4 = comE k c s n v) := (comE_kind h1).symm
    go_wp2
    go_ret
    exact ⟨ret_num HE.out, bb⟩
end Go.Proofs.YthmlikljeoamgabDoor
/-
  The walks of a command's numbers: where they stand, how they are put behind bytes, and how they are read.
-/
namespace Go.Proofs.YthmlikljeoamgabDoor
open Go.RowKit
set_option linter.unusedVariables false

theorem oBelow_row {B : Nat} {a w : World} (h : Below B a w) {g : Nat} (hg : B ≤ g) (cs : Array Value) : Below B a (w.setRow g cs) :=
  h.trans ⟨rfl, rfl, rfl, by simp, fun k hk => setRow_other w g k cs (by omega)⟩
/-- pointers to the five numbers of a command that lies at g -/
def ptA (g : Nat) : Array Value := #[.pointer (some ⟨g, 0, none⟩), .pointer (some ⟨g, 1, none⟩), .pointer (some ⟨g, 2, none⟩), .pointer (some ⟨g, 3, none⟩), .pointer (some ⟨g, 4, none⟩)]
theorem ptA_one (g : Nat) : (ptA g).all (·.oneCell') = true := by simp [ptA, Value.oneCell']
def noPt : Array Value := #[.pointer none, .pointer none, .pointer none, .pointer none, .pointer none]
theorem ptInfo (g : Nat) : (Tryd.prog.info? 84).map (·.size) = some (ptA g).size := by show _ = some 5; kernel_rfl
set_option maxRecDepth 100000 in
theorem pt_index (g : Nat) (j : Nat) (hj : j < 5) : ∀ W, (Instr.index 84 (.agg (ptA g)) (.int .i64 (j : Int))).run Tryd.prog W = .ok (.pointer (some ⟨g, j, none⟩)) W := by
  intro W
  rcases (by omega : j = 0 ∨ j = 1 ∨ j = 2 ∨ j = 3 ∨ j = 4) with rfl | rfl | rfl | rfl | rfl
  all_goals kernel_rfl

set_option maxHeartbeats 1000000 in
set_option maxRecDepth 100000 in
theorem numbersOf_any (g : Nat) (w : World) :
    Calls Tryd.prog 41 #[.pointer (some ⟨g, 0, none⟩)] w fun e w' => e = .returned (.agg (ptA g)) ∧ Below w.heap.size w w' := by
  have bb : Below w.heap.size w (w.alloc (.cells noPt 84)) := (Below.refl _ _).alloc (Nat.le_refl _) _
  have rr := heap_alloc_new w (.cells noPt 84)
  have hi := ptInfo g
  go_enter Tryd.func41, Tryd.ntmps41
  go_wp2_with fail
  refine wp_region_quiet_tail 16 (by kernel_rfl) (by kernel_rfl) ?_
  simp only [List.take_succ_cons, List.take_zero, List.drop_succ_cons, List.drop_zero]
  repeat (go_big_quiet_step (fail))
  refine wpQuiet_nil ?_
  have rr' : (w.alloc (.cells noPt 84)).drew.heap[w.heap.size]? = some (.cells noPt 84) := rr
  have bb' : Below w.heap.size w (w.alloc (.cells noPt 84)).drew := bb.drew
  have hn : noPt = #[.pointer none, .pointer none, .pointer none, .pointer none, .pointer none] := rfl
  rw [← hn]
  generalize (w.alloc (.cells noPt 84)).drew = W at rr' bb'
  go_wp2_with (refine wpList_store_row rfl 84 (.tmp 2) (.tmp 18) rfl w.heap.size (ptA g) rfl rfl 84 _ rr' hi rfl (ptA_one g) ?_)
  have r2 := setRow_heap W w.heap.size _ (ptA g) 84 _ rr'
  exact bodyPost_ret (v := .agg (ptA g)) (results_cell_row rfl _ _ w.heap.size 84 _ (0, 0) _ rfl r2 Tryd.underlying84 rfl hi) rfl ⟨rfl, oBelow_row bb' (Nat.le_refl _) _⟩

theorem Sl.one2O (w : World) (b b' : Int) (e : TypeId) {g : Nat} (hg : g = w.heap.size) (hb : 0 ≤ b ∧ b < 256) (he : b' = b) : Sl (w.alloc (.cells #[.int .u8 b'] e)) (.slice (some ⟨g, 0, none⟩) 1 1) [b] := by
  subst he; exact Sl.one w b' e hg hb
theorem put_len (l : List Int) (n : Int) (j : Nat) (hl : l.length ≤ 100000) : (l ++ (headL n).take j).length + 1 ≤ 140737488355328 := by
  have : ((headL n).take j).length ≤ 4 := by rw [List.length_take]; exact Nat.min_le_right _ _
  rw [List.length_append]; omega

set_option maxHeartbeats 1000000 in
set_option maxRecDepth 100000 in
theorem putNumber_any (v : Value) (l : List Int) (n : Int) (B : Nat) (w : World) (ho : w.ownsRow B 5 1 v l.length (l.map (Value.int .u8))) (hB : B ≤ w.heap.size) (hl : l.length ≤ 100000) (n0 : 0 ≤ n) (n1 : n < 2147483648) :
    Calls Tryd.prog 42 #[v, .int .i64 n] w fun e w' => ∃ v', e = .returned v' ∧ w'.ownsRow B 5 1 v' (l ++ headL n).length ((l ++ headL n).map (Value.int .u8)) ∧ Below B w w' := by
  have HO0 : Hid (w.ownsRow B 5 1 v (l ++ (headL n).take 0).length ((l ++ (headL n).take 0).map (Value.int .u8))) := by unfold Hid; simpa using ho
  clear ho
  go_enter Tryd.func42, Tryd.ntmps42
  go_wp2_with fail
  go_loopw [0, 5] (fun v iv wr => ∃ j : Nat, j ≤ 4 ∧ iv = .int .i64 (3 - (j : Int)) ∧ wr.ownsRow B 5 1 v (l ++ (headL n).take j).length ((l ++ (headL n).take j).map (Value.int .u8)) ∧ Below B w wr) (fun _ iv _ => (intOf iv + 1).toNat)
  case atStart => exact ⟨0, by omega, rfl, HO0.out, Below.refl _ _⟩
  case round =>
    obtain ⟨j, hj, rfl, hown, hbel⟩ := hrel
    clear HO0
    have hlt := hown.lt
    have hz : B ≤ wr.heap.size := Nat.le_trans hB hbel.size
    have HL := put_len l n
    by_cases hj4 : j < 4
    · rcases (by omega : j = 0 ∨ j = 1 ∨ j = 2 ∨ j = 3) with rfl | rfl | rfl | rfl
      · rw [show (3 : Int) - ((0 : Nat) : Int) = 3 from rfl]
        have hx : Hid (l ++ (headL n).take 1 = l ++ (headL n).take 0 ++ [n / 16777216 % 256]) := by unfold Hid; rw [List.append_assoc]; rfl
        have hLL := HL 0 hl
        clear HL
        generalize l ++ (headL n).take 0 = L at hown hx hLL
        go_wp2_with (at_builtin; refine wpList_append_sl _ rfl _ _ 23 rfl B 5 Tryd.underlying23 info5 _ _ rfl rfl L [n / 16777216 % 256] (hown.alloc _) (Sl.one2O _ (n / 16777216 % 256) _ _ rfl (by omega) (by omega)) hLL (by simp; omega) ?_)
        intro v2 w2 ho2 hg2
        have hb2 : Below B w w2 := (hbel.alloc hz _).grown hg2 (by simp; omega) (fun k hk => (hlt k hk).1)
        have HO2 : Hid (w2.ownsRow B 5 1 v2 (l ++ (headL n).take 1).length ((l ++ (headL n).take 1).map (Value.int .u8))) := by
          unfold Hid
          rw [hx.out]
          simpa using ho2
        clear ho2 hg2 hown hlt hbel hLL hx
        go_wp2
        go_roundw
        case rel => exact ⟨1, by omega, rfl, HO2.out, hb2⟩
        case measure => simp [intOf]
      · rw [show (3 : Int) - ((1 : Nat) : Int) = 2 from rfl]
        have hx : Hid (l ++ (headL n).take 2 = l ++ (headL n).take 1 ++ [n / 65536 % 256]) := by unfold Hid; rw [List.append_assoc]; rfl
        have hLL := HL 1 hl
        clear HL
        generalize l ++ (headL n).take 1 = L at hown hx hLL
        go_wp2_with (at_builtin; refine wpList_append_sl _ rfl _ _ 23 rfl B 5 Tryd.underlying23 info5 _ _ rfl rfl L [n / 65536 % 256] (hown.alloc _) (Sl.one2O _ (n / 65536 % 256) _ _ rfl (by omega) (by omega)) hLL (by simp; omega) ?_)
        intro v2 w2 ho2 hg2
        have hb2 : Below B w w2 := (hbel.alloc hz _).grown hg2 (by simp; omega) (fun k hk => (hlt k hk).1)
        have HO2 : Hid (w2.ownsRow B 5 1 v2 (l ++ (headL n).take 2).length ((l ++ (headL n).take 2).map (Value.int .u8))) := by
          unfold Hid
          rw [hx.out]
          simpa using ho2
        clear ho2 hg2 hown hlt hbel hLL hx
        go_wp2
        go_roundw
        case rel => exact ⟨2, by omega, rfl, HO2.out, hb2⟩
        case measure => simp [intOf]
      · rw [show (3 : Int) - ((2 : Nat) : Int) = 1 from rfl]
        have hx : Hid (l ++ (headL n).take 3 = l ++ (headL n).take 2 ++ [n / 256 % 256]) := by unfold Hid; rw [List.append_assoc]; rfl
        have hLL := HL 2 hl
        clear HL
        generalize l ++ (headL n).take 2 = L at hown hx hLL
        go_wp2_with (at_builtin; refine wpList_append_sl _ rfl _ _ 23 rfl B 5 Tryd.underlying23 info5 _ _ rfl rfl L [n / 256 % 256] (hown.alloc _) (Sl.one2O _ (n / 256 % 256) _ _ rfl (by omega) (by omega)) hLL (by simp; omega) ?_)
        intro v2 w2 ho2 hg2
        have hb2 : Below B w w2 := (hbel.alloc hz _).grown hg2 (by simp; omega) (fun k hk => (hlt k hk).1)
        have HO2 : Hid (w2.ownsRow B 5 1 v2 (l ++ (headL n).take 3).length ((l ++ (headL n).take 3).map (Value.int .u8))) := by
          unfold Hid
          rw [hx.out]
          simpa using ho2
        clear ho2 hg2 hown hlt hbel hLL hx
        go_wp2
        go_roundw
        case rel => exact ⟨3, by omega, rfl, HO2.out, hb2⟩
        case measure => simp [intOf]
      · rw [show (3 : Int) - ((3 : Nat) : Int) = 0 from rfl]
        have hx : Hid (l ++ (headL n).take 4 = l ++ (headL n).take 3 ++ [n % 256]) := by unfold Hid; rw [List.append_assoc]; rfl
        have hLL := HL 3 hl
        clear HL
        generalize l ++ (headL n).take 3 = L at hown hx hLL
        go_wp2_with (at_builtin; refine wpList_append_sl _ rfl _ _ 23 rfl B 5 Tryd.underlying23 info5 _ _ rfl rfl L [n % 256] (hown.alloc _) (Sl.one2O _ (n % 256) _ _ rfl (by omega) (by omega)) hLL (by simp; omega) ?_)
        intro v2 w2 ho2 hg2
        have hb2 : Below B w w2 := (hbel.alloc hz _).grown hg2 (by simp; omega) (fun k hk => (hlt k hk).1)
        have HO2 : Hid (w2.ownsRow B 5 1 v2 (l ++ (headL n).take 4).length ((l ++ (headL n).take 4).map (Value.int .u8))) := by
          unfold Hid
          rw [hx.out]
          simpa using ho2
        clear ho2 hg2 hown hlt hbel hLL hx
        go_wp2
        go_roundw
        case rel => exact ⟨4, by omega, rfl, HO2.out, hb2⟩
        case measure => simp [intOf]
    · obtain rfl : j = 4 := by omega
      rw [show (3 : Int) - ((4 : Nat) : Int) = -1 from rfl]
      have HO : Hid _ := hown
      clear hown hlt HL
      go_wp2
      go_ret
      exact ⟨_, rfl, HO.out, hbel⟩
theorem Sl.spotO {w : World} {a : Option Addr} {n cap : Nat} {l : List Int} (h : Sl w (.slice a n cap) l) (k : Nat) (hk : k < l.length) : ∃ bd od, a = some ⟨bd, od, none⟩ ∧ bd < w.heap.size ∧ w.cell? ⟨bd, od + k, none⟩ = some (.int .u8 (l.getD k 0)) := by
  obtain ⟨⟨a', cap', e, hc, hn, h1⟩, hla, hba⟩ := h
  simp only [Value.slice.injEq] at e
  obtain ⟨rfl, rfl, rfl⟩ := e
  rcases h1 with rfl | ⟨b, off, rfl, hb, hcell⟩
  · simp at hk
  · exact ⟨b, off, rfl, hb, hcell k hk⟩
end Go.Proofs.YthmlikljeoamgabDoor
