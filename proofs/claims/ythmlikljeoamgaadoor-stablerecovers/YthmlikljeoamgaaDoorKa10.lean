/-
  The walk of sha.Same.
-/
import Derived.StillTailTactics
import Derived.Test.YthmlikljeoamgaaDoorKa2
import Derived.Test.YthmlikljeoamgaaDoorKa3
import Derived.Test.YthmlikljeoamgaaDoorKa9
import Derived.Test.YthmlikljeoamgaaDoorKa8
namespace Go.Proofs.YthmlikljeoamgaaDoor
open Go.RowKit



def dif (la lb : List Int) : Nat → Int
  | 0 => 0
  | k + 1 => bits .or .u8 (dif la lb k) (bits .xor .u8 (la.getD k 0) (lb.getD k 0))

theorem or_zero {a b : Nat} : a ||| b = 0 ↔ a = 0 ∧ b = 0 := by
  constructor
  · intro h
    have h1 : ∀ i, (a ||| b).testBit i = false := by intro i; rw [h]; simp
    constructor
    · apply Nat.eq_of_testBit_eq; intro i; have := h1 i; rw [Nat.testBit_or] at this; simp at this; simp [this.1]
    · apply Nat.eq_of_testBit_eq; intro i; have := h1 i; rw [Nat.testBit_or] at this; simp at this; simp [this.2]
  · rintro ⟨rfl, rfl⟩; rfl

theorem xor_zero {a b : Nat} : a ^^^ b = 0 ↔ a = b := by
  constructor
  · intro h
    have h1 : ∀ i, (a ^^^ b).testBit i = false := by intro i; rw [h]; simp
    apply Nat.eq_of_testBit_eq; intro i; have := h1 i; rw [Nat.testBit_xor] at this; simpa using this
  · rintro rfl; simp

theorem dif_zero {la lb : List Int} (ha : ∀ x ∈ la, 0 ≤ x ∧ x < 256) (hb : ∀ x ∈ lb, 0 ≤ x ∧ x < 256) (k : Nat) :
    0 ≤ dif la lb k ∧ dif la lb k < 256 ∧ (dif la lb k = 0 ↔ ∀ i, i < k → la.getD i 0 = lb.getD i 0) := by
  induction k with
  | zero => simp [dif]
  | succ k ih =>
    obtain ⟨h1, h2, h3⟩ := ih
    have hx := getD_byte ha k
    have hy := getD_byte hb k
    have e1 := u8_xor _ _ hx.1 hx.2 hy.1 hy.2
    have hlt : (la.getD k 0).toNat ^^^ (lb.getD k 0).toNat < 256 := Nat.xor_lt_two_pow (n := 8) (by omega) (by omega)
    have e2 := u8_or (dif la lb k) (((la.getD k 0).toNat ^^^ (lb.getD k 0).toNat : Nat) : Int) h1 h2 (by omega) (by omega)
    have e3 : dif la lb (k + 1) = (((dif la lb k).toNat ||| ((la.getD k 0).toNat ^^^ (lb.getD k 0).toNat) : Nat) : Int) := by
      show bits .or .u8 (dif la lb k) (bits .xor .u8 (la.getD k 0) (lb.getD k 0)) = _
      rw [e1, e2]; simp
    have hlt2 : (dif la lb k).toNat ||| ((la.getD k 0).toNat ^^^ (lb.getD k 0).toNat) < 256 := Nat.or_lt_two_pow (n := 8) (by omega) hlt
    refine ⟨by rw [e3]; omega, by rw [e3]; omega, ?_⟩
    have e4 : dif la lb (k + 1) = 0 ↔ dif la lb k = 0 ∧ la.getD k 0 = lb.getD k 0 := by
      rw [e3]
      have := @or_zero (dif la lb k).toNat ((la.getD k 0).toNat ^^^ (lb.getD k 0).toNat)
      have h5 := @xor_zero (la.getD k 0).toNat (lb.getD k 0).toNat
      rw [h5] at this
      constructor
      · intro h
        have := this.1 (by omega)
        omega
      · intro h
        have := this.2 (by omega)
        omega
    rw [e4, h3]
    constructor
    · intro h i hi
      rcases Nat.lt_or_ge i k with h' | h'
      · exact h.1 i h'
      · obtain rfl : i = k := by omega
        exact h.2
    · intro h
      exact ⟨fun i hi => h i (by omega), h k (by omega)⟩

theorem dif_all {la lb : List Int} (ha : ∀ x ∈ la, 0 ≤ x ∧ x < 256) (hb : ∀ x ∈ lb, 0 ≤ x ∧ x < 256) (hl : la.length = lb.length) : (dif la lb lb.length == 0) = decide (la = lb) := by
  rw [Bool.eq_iff_iff, decide_eq_true_iff, beq_iff_eq, (dif_zero ha hb _).2.2]
  constructor
  · intro h
    apply List.ext_getElem hl
    intro i h1 h2
    have := h i h2
    rwa [getD_at h1, getD_at h2] at this
  · rintro rfl _ _; rfl

theorem same_any (va vb : Value) (la lb : List Int) (w : World) (ha : Sl w va la) (hb : Sl w vb lb) :
    Calls Tryd.prog 69 #[va, vb] w fun e w' => e = .returned (.bool (decide (la = lb))) ∧ ∃ n, w' = w.drewN n := by
  obtain ⟨⟨a, cap, rfl, hc, hn, h1⟩, hla, hba⟩ := ha
  obtain ⟨⟨b, cap', rfl, hc', hn', h1'⟩, hlb, hbb⟩ := hb
  by_cases hl : la.length = lb.length
  · rcases h1 with rfl | ⟨ba, oa, rfl, _, hca⟩
    · obtain rfl : lb = [] := List.eq_nil_of_length_eq_zero (by simpa using hl.symm)
      go_enter Tryd.func69, Tryd.ntmps69
      go_wp2
      refine wp_loop_rounds 1 ?_
      rw [rounds_succ]
      go_wp2
      go_ret
      exact ⟨rfl, 0, rfl⟩
    · rcases h1' with rfl | ⟨bb, ob, rfl, _, hcb⟩
      · obtain rfl : la = [] := List.eq_nil_of_length_eq_zero (by simpa using hl)
        go_enter Tryd.func69, Tryd.ntmps69
        go_wp2
        refine wp_loop_rounds 1 ?_
        rw [rounds_succ]
        go_wp2
        go_ret
        exact ⟨rfl, 0, rfl⟩
      · have HD : Hid ((dif la lb lb.length == 0) = decide (la = lb)) := dif_all hba hbb hl
        go_enter Tryd.func69, Tryd.ntmps69
        go_wp2
        go_loopw [5, 14] (fun d i wr => ∃ k n : Nat, k ≤ lb.length ∧ i = .int .i64 k ∧ d = .int .u8 (dif la lb k) ∧ wr = w.drewN n) (fun _ i _ => lb.length - (intOf i).toNat)
        case atStart => exact ⟨0, 0, Nat.zero_le _, rfl, rfl, rfl⟩
        case round =>
          obtain ⟨k, n, hk, rfl, rfl, rfl⟩ := hrel
          by_cases hlt : k < lb.length
          · have hx := hca k (by omega)
            have hy := hcb k hlt
            clear hca hcb hba hbb
            have hka : k < la.length := by omega
            go_wp2
            go_quiet (fail)
            go_wp2
            go_roundw
            case rel => exact ⟨k + 1, _, by omega, by go_num, by simp only [dif, getD_at hka, getD_at hlt], rfl⟩
            case measure => simp [intOf]; omega
          · obtain rfl : k = lb.length := by omega
            clear hca hcb
            go_wp2
            go_ret
            exact ⟨ret_bool HD.out, n, rfl⟩
  · have hne : ((la.length : Int) == (lb.length : Int)) = false := by simp; omega
    have hdd : decide (la = lb) = false := decide_eq_false (fun e => hl (by rw [e]))
    go_enter Tryd.func69, Tryd.ntmps69
    go_wp2
    go_ret
    exact ⟨ret_bool hdd.symm, 0, rfl⟩

end Go.Proofs.YthmlikljeoamgaaDoor
/-
  The walk of Check.
-/
namespace Go.Proofs.YthmlikljeoamgaaDoor
open Go.RowKit
set_option linter.unusedVariables false

theorem NTab.value1 {w : World} (h : NTab w) : w.cell? ⟨0, 1 * 3 + 2, none⟩ = some (.int .i64 1073741824) := h.cell 5 (by omega)
theorem NTab.value {w : World} (h : NTab w) (k : Nat) (h0 : 1 ≤ k) (h1 : k ≤ 3) : w.cell? ⟨0, k * 3 + 2, none⟩ = some (.int .i64 (if k = 1 then 1073741824 else 0)) := by
  rcases (by omega : k = 1 ∨ k = 2 ∨ k = 3) with rfl | rfl | rfl
  · exact h.cell 5 (by omega)
  · exact h.cell 8 (by omega)
  · exact h.cell 11 (by omega)
set_option maxHeartbeats 1000000 in
set_option maxRecDepth 100000 in
theorem oCheck_any (k c s n v : Int) (w : World) (ht : NTab w) :
    Calls Tryd.prog 50 #[.agg (cmA k c s n v)] w fun e w' => e = .returned (.int .i64 (comE k c s n v)) ∧ Below w.heap.size w w' := by
  have bb : Below w.heap.size w (w.alloc (.cells (cmA k c s n v) 34)) := (Below.refl _ _).alloc (Nat.le_refl _) _
  have bc := Bc.made w k c s n v
  have hT := ht.below bb
  have hi := comInfo k c s n v
  generalize hW : w.alloc (.cells (cmA k c s n v) 34) = W at bb bc hT
  have hW' : w.alloc (.cells #[.int .i64 k, .int .i64 c, .int .i64 s, .int .i64 n, .int .i64 v] 34) = W := hW
  obtain ⟨c0, c1, c2, c3, c4⟩ := cmA_cells bc.row
  clear ht
  go_enter Tryd.func50, Tryd.ntmps50
  go_wp2_with fail
  clear hW hW'
  refine (isKind_any k _).mono ?_
  rintro e w1 ⟨rfl, rfl⟩
  by_cases h1 : 0 ≤ k ∧ k ≤ 3
  · rw [decide_eq_true h1]
    by_cases h2 : k = 0
    · subst h2
      go_wp2_with (refine wpList_load_row rfl 34 _ rfl w.heap.size rfl 34 _ (0, 0) _ bc.row Tryd.underlying34 rfl hi ?_)
      refine (noop_any c s n v _).mono ?_
      rintro e w2 ⟨rfl, b2⟩
      have d2 : Below w.heap.size w w2 := bb.trans (b2.mono bb.size)
      go_wp2
      go_ret
      exact ⟨rfl, d2⟩
    · obtain ⟨m, rfl⟩ := Int.eq_ofNat_of_zero_le h1.1
      have hk : 1 ≤ (m : Int) ∧ (m : Int) ≤ 3 := by omega
      go_wp2_with (refine wpList_load_row rfl 34 _ rfl w.heap.size rfl 34 _ (0, 0) _ bc.row Tryd.underlying34 rfl hi ?_)
      refine (inBounds_any (m : Int) c s n v _ hk hT).mono ?_
      rintro e w2 ⟨rfl, b2⟩
      have d2 : Below w.heap.size w w2 := bb.trans (b2.mono bb.size)
      have bc2 := bc.below b2
      have hT2 := hT.below b2
      clear c0 c1 c2 c3 c4 bc hT b2 bb
      by_cases h3 : InC c s n v
      · rw [decide_eq_true h3]
        obtain ⟨c0, c1, c2, c3, c4⟩ := cmA_cells bc2.row
        have hV := hT2.value m (by omega) (by omega)
        have k0 : (0 : Int) ≤ (m : Int) := by omega
        have k1 : (m : Int) < 4 := by omega
        have k2 : m < 4 := by omega
        clear bc2 hT2 h1 h2
        by_cases h4 : v ≤ (if m = 1 then 1073741824 else 0)
        · have HE : Hid (0 = comE (m : Int) c s n v) := by
            refine (comE_ok hk h3 ?_).symm
            unfold InC at h3
            split at h4 <;> omega
          clear h3 hk
          generalize (if m = 1 then (1073741824 : Int) else 0) = V at hV h4
          go_wp2_with fail
          go_quiet (fail)
          have e1 : Below w.heap.size w (w2.drewN nq) := below_drewN d2 nq
          generalize w2.drewN nq = w3 at e1 ⊢
          go_wp2
          go_ret
          exact ⟨ret_num HE.out, e1⟩
        · have HE : Hid (3 = comE (m : Int) c s n v) := by
            unfold InC at h3
            refine (comE_form ⟨?_, by omega⟩ (by unfold InC; omega) ?_).symm
            · split at h4 <;> omega
            · split at h4 <;> omega
          clear h3 hk
          generalize (if m = 1 then (1073741824 : Int) else 0) = V at hV h4
          go_wp2_with fail
          go_quiet (fail)
          have e1 : Below w.heap.size w (w2.drewN nq) := below_drewN d2 nq
          generalize w2.drewN nq = w3 at e1 ⊢
          go_wp2
          go_ret
          exact ⟨ret_num HE.out, e1⟩
      · rw [decide_eq_false h3]
        have HE : Hid (2 = comE (m : Int) c s n v) := (comE_range hk h3).symm
        clear h3
        go_wp2
        go_ret
        exact ⟨ret_num HE.out, d2⟩
  · rw [decide_eq_false h1]
    have HE : Hid (4 = comE k c s n v) := (comE_kind h1).symm
    go_wp2
    go_ret
    exact ⟨ret_num HE.out, bb⟩
end Go.Proofs.YthmlikljeoamgaaDoor
/-
  The walks of a command's numbers: where they stand, how they are put behind bytes, and how they are read.
-/
namespace Go.Proofs.YthmlikljeoamgaaDoor
open Go.RowKit
set_option linter.unusedVariables false

theorem oBelow_row {B : Nat} {a w : World} (h : Below B a w) {g : Nat} (hg : B ≤ g) (cs : Array Value) : Below B a (w.setRow g cs) :=
  h.trans ⟨rfl, rfl, rfl, by simp, fun k hk => setRow_other w g k cs (by omega)⟩
/-- pointers to the five numbers of a command that lies at g -/
def ptA (g : Nat) : Array Value := #[.pointer (some ⟨g, 0, none⟩), .pointer (some ⟨g, 1, none⟩), .pointer (some ⟨g, 2, none⟩), .pointer (some ⟨g, 3, none⟩), .pointer (some ⟨g, 4, none⟩)]
theorem ptA_one (g : Nat) : (ptA g).all (·.oneCell') = true := by simp [ptA, Value.oneCell']
def noPt : Array Value := #[.pointer none, .pointer none, .pointer none, .pointer none, .pointer none]
theorem ptInfo (g : Nat) : (Tryd.prog.info? 79).map (·.size) = some (ptA g).size := by show _ = some 5; kernel_rfl
set_option maxRecDepth 100000 in
theorem pt_index (g : Nat) (j : Nat) (hj : j < 5) : ∀ W, (Instr.index 79 (.agg (ptA g)) (.int .i64 (j : Int))).run Tryd.prog W = .ok (.pointer (some ⟨g, j, none⟩)) W := by
  intro W
  rcases (by omega : j = 0 ∨ j = 1 ∨ j = 2 ∨ j = 3 ∨ j = 4) with rfl | rfl | rfl | rfl | rfl
  all_goals kernel_rfl

set_option maxHeartbeats 1000000 in
set_option maxRecDepth 100000 in
theorem numbersOf_any (g : Nat) (w : World) :
    Calls Tryd.prog 51 #[.pointer (some ⟨g, 0, none⟩)] w fun e w' => e = .returned (.agg (ptA g)) ∧ Below w.heap.size w w' := by
  have bb : Below w.heap.size w (w.alloc (.cells noPt 79)) := (Below.refl _ _).alloc (Nat.le_refl _) _
  have rr := heap_alloc_new w (.cells noPt 79)
  have hi := ptInfo g
  go_enter Tryd.func51, Tryd.ntmps51
  go_wp2_with fail
  refine wp_region_quiet_tail 16 (by kernel_rfl) (by kernel_rfl) ?_
  simp only [List.take_succ_cons, List.take_zero, List.drop_succ_cons, List.drop_zero]
  repeat (go_big_quiet_step (fail))
  refine wpQuiet_nil ?_
  have rr' : (w.alloc (.cells noPt 79)).drew.heap[w.heap.size]? = some (.cells noPt 79) := rr
  have bb' : Below w.heap.size w (w.alloc (.cells noPt 79)).drew := bb.drew
  have hn : noPt = #[.pointer none, .pointer none, .pointer none, .pointer none, .pointer none] := rfl
  rw [← hn]
  generalize (w.alloc (.cells noPt 79)).drew = W at rr' bb'
  go_wp2_with (refine wpList_store_row rfl 79 (.tmp 2) (.tmp 18) rfl w.heap.size (ptA g) rfl rfl 79 _ rr' hi rfl (ptA_one g) ?_)
  have r2 := setRow_heap W w.heap.size _ (ptA g) 79 _ rr'
  exact bodyPost_ret (v := .agg (ptA g)) (results_cell_row rfl _ _ w.heap.size 79 _ (0, 0) _ rfl r2 Tryd.underlying79 rfl hi) rfl ⟨rfl, oBelow_row bb' (Nat.le_refl _) _⟩

theorem Sl.one2O (w : World) (b b' : Int) (e : TypeId) {g : Nat} (hg : g = w.heap.size) (hb : 0 ≤ b ∧ b < 256) (he : b' = b) : Sl (w.alloc (.cells #[.int .u8 b'] e)) (.slice (some ⟨g, 0, none⟩) 1 1) [b] := by
  subst he; exact Sl.one w b' e hg hb
theorem put_len (l : List Int) (n : Int) (j : Nat) (hl : l.length ≤ 100000) : (l ++ (headL n).take j).length + 1 ≤ 140737488355328 := by
  have : ((headL n).take j).length ≤ 4 := by rw [List.length_take]; exact Nat.min_le_right _ _
  rw [List.length_append]; omega

set_option maxHeartbeats 1000000 in
set_option maxRecDepth 100000 in
theorem putNumber_any (v : Value) (l : List Int) (n : Int) (B : Nat) (w : World) (ho : w.ownsRow B 5 1 v l.length (l.map (Value.int .u8))) (hB : B ≤ w.heap.size) (hl : l.length ≤ 100000) (n0 : 0 ≤ n) (n1 : n < 2147483648) :
    Calls Tryd.prog 52 #[v, .int .i64 n] w fun e w' => ∃ v', e = .returned v' ∧ w'.ownsRow B 5 1 v' (l ++ headL n).length ((l ++ headL n).map (Value.int .u8)) ∧ Below B w w' := by
  have HO0 : Hid (w.ownsRow B 5 1 v (l ++ (headL n).take 0).length ((l ++ (headL n).take 0).map (Value.int .u8))) := by unfold Hid; simpa using ho
  clear ho
  go_enter Tryd.func52, Tryd.ntmps52
  go_wp2_with fail
  go_loopw [0, 5] (fun v iv wr => ∃ j : Nat, j ≤ 4 ∧ iv = .int .i64 (3 - (j : Int)) ∧ wr.ownsRow B 5 1 v (l ++ (headL n).take j).length ((l ++ (headL n).take j).map (Value.int .u8)) ∧ Below B w wr) (fun _ iv _ => (intOf iv + 1).toNat)
  case atStart => exact ⟨0, by omega, rfl, HO0.out, Below.refl _ _⟩
  case round =>
    obtain ⟨j, hj, rfl, hown, hbel⟩ := hrel
    clear HO0
    have hlt := hown.lt
    have hz : B ≤ wr.heap.size := Nat.le_trans hB hbel.size
    have HL := put_len l n
    by_cases hj4 : j < 4
    · rcases (by omega : j = 0 ∨ j = 1 ∨ j = 2 ∨ j = 3) with rfl | rfl | rfl | rfl
      · rw [show (3 : Int) - ((0 : Nat) : Int) = 3 from rfl]
        have hx : Hid (l ++ (headL n).take 1 = l ++ (headL n).take 0 ++ [n / 16777216 % 256]) := by unfold Hid; rw [List.append_assoc]; rfl
        have hLL := HL 0 hl
        clear HL
        generalize l ++ (headL n).take 0 = L at hown hx hLL
        go_wp2_with (at_builtin; refine wpList_append_sl _ rfl _ _ 22 rfl B 5 Tryd.underlying22 info5 _ _ rfl rfl L [n / 16777216 % 256] (hown.alloc _) (Sl.one2O _ (n / 16777216 % 256) _ _ rfl (by omega) (by omega)) hLL (by simp; omega) ?_)
        intro v2 w2 ho2 hg2
        have hb2 : Below B w w2 := (hbel.alloc hz _).grown hg2 (by simp; omega) (fun k hk => (hlt k hk).1)
        have HO2 : Hid (w2.ownsRow B 5 1 v2 (l ++ (headL n).take 1).length ((l ++ (headL n).take 1).map (Value.int .u8))) := by
          unfold Hid
          rw [hx.out]
          simpa using ho2
        clear ho2 hg2 hown hlt hbel hLL hx
        go_wp2
        go_roundw
        case rel => exact ⟨1, by omega, rfl, HO2.out, hb2⟩
        case measure => simp [intOf]
      · rw [show (3 : Int) - ((1 : Nat) : Int) = 2 from rfl]
        have hx : Hid (l ++ (headL n).take 2 = l ++ (headL n).take 1 ++ [n / 65536 % 256]) := by unfold Hid; rw [List.append_assoc]; rfl
        have hLL := HL 1 hl
        clear HL
        generalize l ++ (headL n).take 1 = L at hown hx hLL
        go_wp2_with (at_builtin; refine wpList_append_sl _ rfl _ _ 22 rfl B 5 Tryd.underlying22 info5 _ _ rfl rfl L [n / 65536 % 256] (hown.alloc _) (Sl.one2O _ (n / 65536 % 256) _ _ rfl (by omega) (by omega)) hLL (by simp; omega) ?_)
        intro v2 w2 ho2 hg2
        have hb2 : Below B w w2 := (hbel.alloc hz _).grown hg2 (by simp; omega) (fun k hk => (hlt k hk).1)
        have HO2 : Hid (w2.ownsRow B 5 1 v2 (l ++ (headL n).take 2).length ((l ++ (headL n).take 2).map (Value.int .u8))) := by
          unfold Hid
          rw [hx.out]
          simpa using ho2
        clear ho2 hg2 hown hlt hbel hLL hx
        go_wp2
        go_roundw
        case rel => exact ⟨2, by omega, rfl, HO2.out, hb2⟩
        case measure => simp [intOf]
      · rw [show (3 : Int) - ((2 : Nat) : Int) = 1 from rfl]
        have hx : Hid (l ++ (headL n).take 3 = l ++ (headL n).take 2 ++ [n / 256 % 256]) := by unfold Hid; rw [List.append_assoc]; rfl
        have hLL := HL 2 hl
        clear HL
        generalize l ++ (headL n).take 2 = L at hown hx hLL
        go_wp2_with (at_builtin; refine wpList_append_sl _ rfl _ _ 22 rfl B 5 Tryd.underlying22 info5 _ _ rfl rfl L [n / 256 % 256] (hown.alloc _) (Sl.one2O _ (n / 256 % 256) _ _ rfl (by omega) (by omega)) hLL (by simp; omega) ?_)
        intro v2 w2 ho2 hg2
        have hb2 : Below B w w2 := (hbel.alloc hz _).grown hg2 (by simp; omega) (fun k hk => (hlt k hk).1)
        have HO2 : Hid (w2.ownsRow B 5 1 v2 (l ++ (headL n).take 3).length ((l ++ (headL n).take 3).map (Value.int .u8))) := by
          unfold Hid
          rw [hx.out]
          simpa using ho2
        clear ho2 hg2 hown hlt hbel hLL hx
        go_wp2
        go_roundw
        case rel => exact ⟨3, by omega, rfl, HO2.out, hb2⟩
        case measure => simp [intOf]
      · rw [show (3 : Int) - ((3 : Nat) : Int) = 0 from rfl]
        have hx : Hid (l ++ (headL n).take 4 = l ++ (headL n).take 3 ++ [n % 256]) := by unfold Hid; rw [List.append_assoc]; rfl
        have hLL := HL 3 hl
        clear HL
        generalize l ++ (headL n).take 3 = L at hown hx hLL
        go_wp2_with (at_builtin; refine wpList_append_sl _ rfl _ _ 22 rfl B 5 Tryd.underlying22 info5 _ _ rfl rfl L [n % 256] (hown.alloc _) (Sl.one2O _ (n % 256) _ _ rfl (by omega) (by omega)) hLL (by simp; omega) ?_)
        intro v2 w2 ho2 hg2
        have hb2 : Below B w w2 := (hbel.alloc hz _).grown hg2 (by simp; omega) (fun k hk => (hlt k hk).1)
        have HO2 : Hid (w2.ownsRow B 5 1 v2 (l ++ (headL n).take 4).length ((l ++ (headL n).take 4).map (Value.int .u8))) := by
          unfold Hid
          rw [hx.out]
          simpa using ho2
        clear ho2 hg2 hown hlt hbel hLL hx
        go_wp2
        go_roundw
        case rel => exact ⟨4, by omega, rfl, HO2.out, hb2⟩
        case measure => simp [intOf]
    · obtain rfl : j = 4 := by omega
      rw [show (3 : Int) - ((4 : Nat) : Int) = -1 from rfl]
      have HO : Hid _ := hown
      clear hown hlt HL
      go_wp2
      go_ret
      exact ⟨_, rfl, HO.out, hbel⟩
theorem Sl.spotO {w : World} {a : Option Addr} {n cap : Nat} {l : List Int} (h : Sl w (.slice a n cap) l) (k : Nat) (hk : k < l.length) : ∃ bd od, a = some ⟨bd, od, none⟩ ∧ bd < w.heap.size ∧ w.cell? ⟨bd, od + k, none⟩ = some (.int .u8 (l.getD k 0)) := by
  obtain ⟨⟨a', cap', e, hc, hn, h1⟩, hla, hba⟩ := h
  simp only [Value.slice.injEq] at e
  obtain ⟨rfl, rfl, rfl⟩ := e
  rcases h1 with rfl | ⟨b, off, rfl, hb, hcell⟩
  · simp at hk
  · exact ⟨b, off, rfl, hb, hcell k hk⟩
end Go.Proofs.YthmlikljeoamgaaDoor
/-
  The walks of the program's own sums, and of the first body of bytes.
-/
namespace Go.Proofs.YthmlikljeoamgaaDoor
open Go.RowKit
set_option linter.unusedVariables false

set_option maxHeartbeats 2000000 in
set_option maxRecDepth 100000 in
theorem sumOf_any (v : Value) (l : List Int) (w : World) (h : Sl w v l) (hl : l.length ≤ 2000) (ht : TabAt w) :
    Calls Tryd.prog 62 #[v] w fun e w' => ∃ a c, e = .returned (.tuple #[.slice a 4 c, .int .i64 0]) ∧ Sl w' (.slice a 4 c) ((dig l).take 4) ∧ Below w.heap.size w w' := by
  go_enter Tryd.func62, Tryd.ntmps62
  go_wp2_with fail
  refine (sum_ok v l w h hl ht).mono ?_
  rintro e w1 ⟨y, rfl, f1⟩
  obtain ⟨g, cap, hy, hg, hcap⟩ := f1.shape
  rw [dig_length] at hy hcap
  subst hy
  obtain ⟨a4, c4, r4, s4⟩ := f1.sl.upTo 4 (by rw [dig_length]; decide)
  have b1 := f1.bel
  clear f1
  have hcap4 : (4 : Int) ≤ (cap : Int) := by omega
  replace r4 : ∀ W, (Instr.slice 22 (.slice (some ⟨g, 0, none⟩) 32 cap) none (some (.int .i64 4)) none).run Tryd.prog W = .ok (.slice a4 4 c4) W := r4
  go_wp2
  go_ret2
  exact ⟨a4, c4, rfl, s4, b1⟩
set_option maxHeartbeats 2000000 in
set_option maxRecDepth 100000 in
theorem firstBody_any (v : Value) (r : List Int) (w : World) (h : Sl w v r) (ht : TabAt w) :
    Calls Tryd.prog 55 #[v] w fun e w' => ∃ a n c, e = .returned (.tuple #[.slice a n c, .bool (fbO r).isSome]) ∧ Sl w' (.slice a n c) ((fbO r).getD []) ∧ Below w.heap.size w w' := by
  have hlen := h.len
  have hx := getD_byte h.byte 0
  obtain ⟨ax, cp, rfl⟩ := h.shapeT
  by_cases h0 : r = []
  · subst h0
    have HO : Hid (fbO [] = none) := if_pos rfl
    rw [HO.out]
    go_enter Tryd.func55, Tryd.ntmps55
    go_wp2
    go_ret2
    exact ⟨none, 0, 0, rfl, Sl.nil _ _, Below.refl _ _⟩
  · have hp : 0 < r.length := by
      rcases Nat.eq_zero_or_pos r.length with g | g
      · exact absurd (List.eq_nil_of_length_eq_zero g) h0
      · exact g
    obtain ⟨bd, od, rfl, hbd, hc⟩ := h.spotO 0 hp
    obtain ⟨x, hx0⟩ : ∃ x : Nat, r.getD 0 0 = (x : Int) := ⟨(r.getD 0 0).toNat, by omega⟩
    have hxn : (r.getD 0 0).toNat = x := by rw [hx0]; exact Int.toNat_natCast _
    rw [hx0] at hc hx
    obtain ⟨M, hM⟩ : ∃ M, r.length = M := ⟨_, rfl⟩
    have HM : Hid (r.length = M) := hM
    have HX : Hid ((r.getD 0 0).toNat = x) := hxn
    have hz : (0 : Int) < (M : Int) := by omega
    have hne : ((M : Int) == 0) = false := by simp; omega
    rw [hM] at h hlen hp ⊢
    have hx2 : x < 256 := by omega
    have H0 : Hid (¬ r = []) := h0
    clear hM hx0 hxn hx h0
    rw [Nat.add_zero] at hc
    by_cases h1 : M < x + 5
    · have HO : Hid (fbO r = none) := by
        unfold Hid fbO
        rw [if_neg H0.out, HX.out, HM.out, if_pos h1]
      rw [HO.out]
      have h1i : (M : Int) < 1 + (x : Int) + 4 := by omega
      clear H0 HX
      go_enter Tryd.func55, Tryd.ntmps55
      go_wp2
      go_ret2
      exact ⟨none, 0, 0, rfl, Sl.nil _ _, Below.refl _ _⟩
    · have h1i : ¬ (M : Int) < 1 + (x : Int) + 4 := by omega
      obtain ⟨E, hE⟩ : ∃ E : Nat, E = x + 1 := ⟨_, rfl⟩
      have HE : Hid (E = x + 1) := hE
      have hEi : 1 + (x : Int) = (E : Int) := by omega
      have hE2 : E + 4 ≤ M := by omega
      have hE3 : E ≤ 256 := by omega
      have hE4 : 1 ≤ E := by omega
      rw [hEi] at h1i
      obtain ⟨au, cu, ru, su⟩ := h.upTo E (by rw [HM.out]; omega)
      obtain ⟨af, cf, rf, sf⟩ := h.cutT E (E + 4) 4 (by omega) (by rw [HM.out]; omega) (by omega) (E : Int) ((E : Int) + 4) rfl (by omega)
      obtain ⟨ab, cb, rb, sb⟩ := h.cutT 1 E x hE4 (by rw [HM.out]; omega) (by omega) 1 (E : Int) rfl rfl
      have hl : (r.take E).length = E := by rw [List.length_take, HM.out]; omega
      have HF : Hid ((r.take (E + 4)).drop E = (r.drop E).take 4) := by unfold Hid; rw [List.drop_take, show E + 4 - E = 4 by omega]
      rw [HF.out] at sf
      clear hE h1 hE4 HF
      go_enter Tryd.func55, Tryd.ntmps55
      go_wp2_with fail
      refine (sumOf_any (.slice au E cu) (r.take E) w su (by omega) ht).mono ?_
      rintro e w1 ⟨ag, cg, rfl, sg, b1⟩
      have sf1 := sf.below b1
      have sb1 := sb.below b1
      clear su sf sb ru hc hbd hl
      go_wp2_with fail
      refine (same_any (.slice ag 4 cg) (.slice af 4 cf) ((dig (r.take E)).take 4) ((r.drop E).take 4) w1 sg sf1).mono ?_
      rintro e w2 ⟨rfl, n2, hw2⟩
      have b2 : Below w1.heap.size w1 w2 := by rw [hw2]; exact below_drewN (Below.refl _ _) n2
      clear hw2
      have d2 := b1.trans (b2.mono b1.size)
      have sb2 := sb1.below b2
      clear b1 b2 sb1 sg sf1 rf
      by_cases h2 : (dig (r.take E)).take 4 = (r.drop E).take 4
      · have HO : Hid (fbO r = some ((r.take E).drop 1)) := by
          unfold Hid fbO
          have := HE.out
          rw [if_neg H0.out, HX.out, HM.out, if_neg (by omega), ← this, if_neg (fun g => g h2)]
        rw [decide_eq_true h2]
        clear h2 H0 HX HE
        go_wp2
        go_ret2
        rw [HO.out]
        exact ⟨ab, x, cb, rfl, sb2, d2⟩
      · have HO : Hid (fbO r = none) := by
          unfold Hid fbO
          have := HE.out
          rw [if_neg H0.out, HX.out, HM.out, if_neg (by omega), ← this, if_pos h2]
        rw [decide_eq_false h2]
        clear h2 H0 HX HE sb2
        go_wp2
        go_ret2
        rw [HO.out]
        exact ⟨none, 0, 0, rfl, Sl.nil _ _, d2⟩
end Go.Proofs.YthmlikljeoamgaaDoor
