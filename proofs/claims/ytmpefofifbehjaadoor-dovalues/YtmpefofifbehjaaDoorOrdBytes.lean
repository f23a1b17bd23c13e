/-
  The walks of a command's numbers: where they stand, how they are put behind bytes, and how they are read.
-/
import Derived.Test.YtmpefofifbehjaaDoorOrdChk
import Derived.Test.YtmpefofifbehjaaDoorCutLaws
import Derived.StillTailTactics
namespace Go.Proofs.YtmpefofifbehjaaDoor
open Go.RowKit
set_option linter.unusedVariables false

theorem oBelow_row {B : Nat} {a w : World} (h : Below B a w) {g : Nat} (hg : B ≤ g) (cs : Array Value) : Below B a (w.setRow g cs) :=
  h.trans ⟨rfl, rfl, rfl, by simp, fun k hk => setRow_other w g k cs (by omega)⟩
/-- pointers to the five numbers of a command that lies at g -/
def ptA (g : Nat) : Array Value := #[.pointer (some ⟨g, 0, none⟩), .pointer (some ⟨g, 1, none⟩), .pointer (some ⟨g, 2, none⟩), .pointer (some ⟨g, 3, none⟩), .pointer (some ⟨g, 4, none⟩)]
theorem ptA_one (g : Nat) : (ptA g).all (·.oneCell') = true := by simp [ptA, Value.oneCell']
def noPt : Array Value := #[.pointer none, .pointer none, .pointer none, .pointer none, .pointer none]
theorem ptInfo (g : Nat) : (Tryd.prog.info? 90).map (·.size) = some (ptA g).size := by show _ = some 5; kernel_rfl
set_option maxRecDepth 100000 in
theorem pt_index (g : Nat) (j : Nat) (hj : j < 5) : ∀ W, (Instr.index 90 (.agg (ptA g)) (.int .i64 (j : Int))).run Tryd.prog W = .ok (.pointer (some ⟨g, j, none⟩)) W := by
  intro W
  rcases (by omega : j = 0 ∨ j = 1 ∨ j = 2 ∨ j = 3 ∨ j = 4) with rfl | rfl | rfl | rfl | rfl
  all_goals kernel_rfl

set_option maxHeartbeats 1000000 in
set_option maxRecDepth 100000 in
theorem numbersOf_any (g : Nat) (w : World) :
    Calls Tryd.prog 50 #[.pointer (some ⟨g, 0, none⟩)] w fun e w' => e = .returned (.agg (ptA g)) ∧ Below w.heap.size w w' := by
  have bb : Below w.heap.size w (w.alloc (.cells noPt 90)) := (Below.refl _ _).alloc (Nat.le_refl _) _
  have rr := heap_alloc_new w (.cells noPt 90)
  have hi := ptInfo g
  go_enter Tryd.func50, Tryd.ntmps50
  go_wp2_with fail
  refine wp_region_quiet_tail 16 (by kernel_rfl) (by kernel_rfl) ?_
  simp only [List.take_succ_cons, List.take_zero, List.drop_succ_cons, List.drop_zero]
  repeat (go_big_quiet_step (fail))
  refine wpQuiet_nil ?_
  have rr' : (w.alloc (.cells noPt 90)).drew.heap[w.heap.size]? = some (.cells noPt 90) := rr
  have bb' : Below w.heap.size w (w.alloc (.cells noPt 90)).drew := bb.drew
  have hn : noPt = #[.pointer none, .pointer none, .pointer none, .pointer none, .pointer none] := rfl
  rw [← hn]
  generalize (w.alloc (.cells noPt 90)).drew = W at rr' bb'
  go_wp2_with (refine wpList_store_row rfl 90 (.tmp 2) (.tmp 18) rfl w.heap.size (ptA g) rfl rfl 90 _ rr' hi rfl (ptA_one g) ?_)
  have r2 := setRow_heap W w.heap.size _ (ptA g) 90 _ rr'
  exact bodyPost_ret (v := .agg (ptA g)) (results_cell_row rfl _ _ w.heap.size 90 _ (0, 0) _ rfl r2 Tryd.underlying90 rfl hi) rfl ⟨rfl, oBelow_row bb' (Nat.le_refl _) _⟩

theorem Sl.one2O (w : World) (b b' : Int) (e : TypeId) {g : Nat} (hg : g = w.heap.size) (hb : 0 ≤ b ∧ b < 256) (he : b' = b) : Sl (w.alloc (.cells #[.int .u8 b'] e)) (.slice (some ⟨g, 0, none⟩) 1 1) [b] := by
  subst he; exact Sl.one w b' e hg hb
theorem put_len (l : List Int) (n : Int) (j : Nat) (hl : l.length ≤ 100000) : (l ++ (headL n).take j).length + 1 ≤ 140737488355328 := by
  have : ((headL n).take j).length ≤ 4 := by rw [List.length_take]; exact Nat.min_le_right _ _
  rw [List.length_append]; omega

set_option maxHeartbeats 1000000 in
set_option maxRecDepth 100000 in
theorem putNumber_any (v : Value) (l : List Int) (n : Int) (B : Nat) (w : World) (ho : w.ownsRow B 5 1 v l.length (l.map (Value.int .u8))) (hB : B ≤ w.heap.size) (hl : l.length ≤ 100000) (n0 : 0 ≤ n) (n1 : n < 2147483648) :
    Calls Tryd.prog 51 #[v, .int .i64 n] w fun e w' => ∃ v', e = .returned v' ∧ w'.ownsRow B 5 1 v' (l ++ headL n).length ((l ++ headL n).map (Value.int .u8)) ∧ Below B w w' := by
  have HO0 : Hid (w.ownsRow B 5 1 v (l ++ (headL n).take 0).length ((l ++ (headL n).take 0).map (Value.int .u8))) := by unfold Hid; simpa using ho
  clear ho
  go_enter Tryd.func51, Tryd.ntmps51
  go_wp2_with fail
  go_loopw [0, 5] (fun v iv wr => ∃ j : Nat, j ≤ 4 ∧ iv = .int .i64 (3 - (j : Int)) ∧ wr.ownsRow B 5 1 v (l ++ (headL n).take j).length ((l ++ (headL n).take j).map (Value.int .u8)) ∧ Below B w wr) (fun _ iv _ => (intOf iv + 1).toNat)
  case atStart => exact ⟨0, by omega, rfl, HO0.out, Below.refl _ _⟩
  case round =>
    obtain ⟨j, hj, rfl, hown, hbel⟩ := hrel
    clear HO0
    have hlt := hown.lt
    have hz : B ≤ wr.heap.size := Nat.le_trans hB hbel.size
    have HL := put_len l n
    by_cases hj4 : j < 4
    · rcases (by omega : j = 0 ∨ j = 1 ∨ j = 2 ∨ j = 3) with rfl | rfl | rfl | rfl
      · rw [show (3 : Int) - ((0 : Nat) : Int) = 3 from rfl]
        have hx : Hid (l ++ (headL n).take 1 = l ++ (headL n).take 0 ++ [n / 16777216 % 256]) := by unfold Hid; rw [List.append_assoc]; rfl
        have hLL := HL 0 hl
        clear HL
        generalize l ++ (headL n).take 0 = L at hown hx hLL
        go_wp2_with (at_builtin; refine wpList_append_sl _ rfl _ _ 59 rfl B 5 Tryd.underlying59 info5 _ _ rfl rfl L [n / 16777216 % 256] (hown.alloc _) (Sl.one2O _ (n / 16777216 % 256) _ _ rfl (by omega) (by omega)) hLL (by simp; omega) ?_)
        intro v2 w2 ho2 hg2
        have hb2 : Below B w w2 := (hbel.alloc hz _).grown hg2 (by simp; omega) (fun k hk => (hlt k hk).1)
        have HO2 : Hid (w2.ownsRow B 5 1 v2 (l ++ (headL n).take 1).length ((l ++ (headL n).take 1).map (Value.int .u8))) := by
          unfold Hid
          rw [hx.out]
          simpa using ho2
        clear ho2 hg2 hown hlt hbel hLL hx
        go_wp2
        go_roundw
        case rel => exact ⟨1, by omega, rfl, HO2.out, hb2⟩
        case measure => simp [intOf]
      · rw [show (3 : Int) - ((1 : Nat) : Int) = 2 from rfl]
        have hx : Hid (l ++ (headL n).take 2 = l ++ (headL n).take 1 ++ [n / 65536 % 256]) := by unfold Hid; rw [List.append_assoc]; rfl
        have hLL := HL 1 hl
        clear HL
        generalize l ++ (headL n).take 1 = L at hown hx hLL
        go_wp2_with (at_builtin; refine wpList_append_sl _ rfl _ _ 59 rfl B 5 Tryd.underlying59 info5 _ _ rfl rfl L [n / 65536 % 256] (hown.alloc _) (Sl.one2O _ (n / 65536 % 256) _ _ rfl (by omega) (by omega)) hLL (by simp; omega) ?_)
        intro v2 w2 ho2 hg2
        have hb2 : Below B w w2 := (hbel.alloc hz _).grown hg2 (by simp; omega) (fun k hk => (hlt k hk).1)
        have HO2 : Hid (w2.ownsRow B 5 1 v2 (l ++ (headL n).take 2).length ((l ++ (headL n).take 2).map (Value.int .u8))) := by
          unfold Hid
          rw [hx.out]
          simpa using ho2
        clear ho2 hg2 hown hlt hbel hLL hx
        go_wp2
        go_roundw
        case rel => exact ⟨2, by omega, rfl, HO2.out, hb2⟩
        case measure => simp [intOf]
      · rw [show (3 : Int) - ((2 : Nat) : Int) = 1 from rfl]
        have hx : Hid (l ++ (headL n).take 3 = l ++ (headL n).take 2 ++ [n / 256 % 256]) := by unfold Hid; rw [List.append_assoc]; rfl
        have hLL := HL 2 hl
        clear HL
        generalize l ++ (headL n).take 2 = L at hown hx hLL
        go_wp2_with (at_builtin; refine wpList_append_sl _ rfl _ _ 59 rfl B 5 Tryd.underlying59 info5 _ _ rfl rfl L [n / 256 % 256] (hown.alloc _) (Sl.one2O _ (n / 256 % 256) _ _ rfl (by omega) (by omega)) hLL (by simp; omega) ?_)
        intro v2 w2 ho2 hg2
        have hb2 : Below B w w2 := (hbel.alloc hz _).grown hg2 (by simp; omega) (fun k hk => (hlt k hk).1)
        have HO2 : Hid (w2.ownsRow B 5 1 v2 (l ++ (headL n).take 3).length ((l ++ (headL n).take 3).map (Value.int .u8))) := by
          unfold Hid
          rw [hx.out]
          simpa using ho2
        clear ho2 hg2 hown hlt hbel hLL hx
        go_wp2
        go_roundw
        case rel => exact ⟨3, by omega, rfl, HO2.out, hb2⟩
        case measure => simp [intOf]
      · rw [show (3 : Int) - ((3 : Nat) : Int) = 0 from rfl]
        have hx : Hid (l ++ (headL n).take 4 = l ++ (headL n).take 3 ++ [n % 256]) := by unfold Hid; rw [List.append_assoc]; rfl
        have hLL := HL 3 hl
        clear HL
        generalize l ++ (headL n).take 3 = L at hown hx hLL
        go_wp2_with (at_builtin; refine wpList_append_sl _ rfl _ _ 59 rfl B 5 Tryd.underlying59 info5 _ _ rfl rfl L [n % 256] (hown.alloc _) (Sl.one2O _ (n % 256) _ _ rfl (by omega) (by omega)) hLL (by simp; omega) ?_)
        intro v2 w2 ho2 hg2
        have hb2 : Below B w w2 := (hbel.alloc hz _).grown hg2 (by simp; omega) (fun k hk => (hlt k hk).1)
        have HO2 : Hid (w2.ownsRow B 5 1 v2 (l ++ (headL n).take 4).length ((l ++ (headL n).take 4).map (Value.int .u8))) := by
          unfold Hid
          rw [hx.out]
          simpa using ho2
        clear ho2 hg2 hown hlt hbel hLL hx
        go_wp2
        go_roundw
        case rel => exact ⟨4, by omega, rfl, HO2.out, hb2⟩
        case measure => simp [intOf]
    · obtain rfl : j = 4 := by omega
      rw [show (3 : Int) - ((4 : Nat) : Int) = -1 from rfl]
      have HO : Hid _ := hown
      clear hown hlt HL
      go_wp2
      go_ret
      exact ⟨_, rfl, HO.out, hbel⟩
theorem Sl.spotO {w : World} {a : Option Addr} {n cap : Nat} {l : List Int} (h : Sl w (.slice a n cap) l) (k : Nat) (hk : k < l.length) : ∃ bd od, a = some ⟨bd, od, none⟩ ∧ bd < w.heap.size ∧ w.cell? ⟨bd, od + k, none⟩ = some (.int .u8 (l.getD k 0)) := by
  obtain ⟨⟨a', cap', e, hc, hn, h1⟩, hla, hba⟩ := h
  simp only [Value.slice.injEq] at e
  obtain ⟨rfl, rfl, rfl⟩ := e
  rcases h1 with rfl | ⟨b, off, rfl, hb, hcell⟩
  · simp at hk
  · exact ⟨b, off, rfl, hb, hcell k hk⟩
end Go.Proofs.YtmpefofifbehjaaDoor
