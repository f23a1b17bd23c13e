/-
  Slices of wishes: what they read as. (A wish is five numbers; they are kept as a Cmd's five.)
-/
import Derived.StillTailTactics
import Derived.Test.YtmpefofifbehjabDoorKe6
import Derived.Test.YtmpefofifbehjabDoorKe8
import Derived.Test.YtmpefofifbehjabDoorKe3
import Derived.Test.YtmpefofifbehjabDoorKe11
namespace Go.Proofs.YtmpefofifbehjabDoor
open Go.RowKit
set_option linter.unusedVariables false

def pyC (c : Cmd) : List Value := [.int .i64 c.k, .int .i64 c.c, .int .i64 c.s, .int .i64 c.n, .int .i64 c.v]
/-- a slice value reads as so many wishes -/
structure Sp (w : World) (x : Value) (l : List Cmd) : Prop where
  ex : ∃ a cap, x = .slice a l.length cap ∧ (l = [] ∨ ∃ b off, a = some ⟨b, off, none⟩ ∧ b < w.heap.size ∧ ∀ i c, l[i]? = some c → w.rangeAt b (off + 5 * i) (pyC c))
  len : l.length ≤ 3518437208883
theorem Sp.below {w w' : World} {x : Value} {l : List Cmd} (h : Sp w x l) (hb : Below w.heap.size w w') : Sp w' x l := by
  obtain ⟨⟨a, cap, rfl, h1⟩, h2⟩ := h
  refine ⟨⟨a, cap, rfl, ?_⟩, h2⟩
  rcases h1 with h1 | ⟨b, off, ha, hbs, hcell⟩
  · exact .inl h1
  · exact .inr ⟨b, off, ha, Nat.lt_of_lt_of_le hbs hb.size, fun i v hi j u hj => (hb.cell (p := ⟨b, off + 5 * i + j, none⟩) hbs).trans (hcell i v hi j u hj)⟩
theorem Sp.shape {w : World} {x : Value} {l : List Cmd} (h : Sp w x l) : ∃ a cap, x = .slice a l.length cap := by
  obtain ⟨⟨a, cap, e, _⟩, _⟩ := h
  exact ⟨a, cap, e⟩
theorem Sp.spot {w : World} {a : Option Addr} {n cap : Nat} {l : List Cmd} (h : Sp w (.slice a n cap) l) (i : Nat) (c : Cmd) (hi : l[i]? = some c) : ∃ b off, a = some ⟨b, off, none⟩ ∧ b < w.heap.size ∧ w.rangeAt b (off + 5 * i) (pyC c) := by
  obtain ⟨⟨a', cap', e, h1⟩, _⟩ := h
  simp only [Value.slice.injEq] at e
  obtain ⟨rfl, rfl, rfl⟩ := e
  rcases h1 with rfl | ⟨b, off, rfl, hb, hcell⟩
  · simp at hi
  · exact ⟨b, off, rfl, hb, hcell i c hi⟩
theorem elemPy : Tryd.prog.elem 22 = 24 := by kernel_rfl
theorem size5p (w : World) : (Go.sizeOf 24).run Tryd.prog w = .ok 5 w := by
  have h : (Tryd.prog.info? 24).map (·.size) = some 5 := by kernel_rfl
  cases hi : Tryd.prog.info? 24 with
  | none => rw [hi] at h; cases h
  | some i =>
    rw [hi] at h
    simp at h
    simp [sizeOf, typeInfo, hi, h]
set_option maxRecDepth 100000 in
theorem runIndexP (b o n c : Nat) (i : Nat) (hi : i < n) (w : World) : (Instr.indexAt 22 (.slice (some ⟨b, o, none⟩) n c) (.int .i64 (i : Int))).run Tryd.prog w = .ok (.pointer (some ⟨b, o + 5 * i, none⟩)) w := by
  rw [run_indexAt_slice (P := Tryd.prog) w 22 _ n c .i64 _ Tryd.underlying22, if_pos ⟨by omega, by omega⟩, elemPy, size5p]
  simp [Result.andThen, Addr.add_mid, Nat.mul_comm]
theorem yieldIndexP {ops : Array Oper} {S : World → Prop} {op : Oper} {a : Act} (hw : Region.wanted op (yielded ops a.tmps) = true) (x y : Operand) (ho : op.op = .indexAddr 22 x y)
    (b o n c i : Nat) (hi : i < n) (hx : a.eval x = .slice (some ⟨b, o, none⟩) n c) (hy : a.eval y = .int .i64 (i : Int)) : YieldsIf Tryd.prog ops S op (.pointer (some ⟨b, o + 5 * i, none⟩)) a :=
  .inl ⟨hw, fun w _ => by
    unfold execOp
    simp only [ho, hx, hy, Sem.run_bind, Sem.run_pure, Result.andThen_ok, runIndexP b o n c i hi w]⟩
end Go.Proofs.YtmpefofifbehjabDoor
/-
  The walk of a number that is picked.
-/
namespace Go.Proofs.YtmpefofifbehjabDoor
open Go.RowKit

def pick (n many : Int) : Int := if n < 0 then (-(n + 1)) % many else n % many

theorem pick_range (n many : Int) (hm : 0 < many) : 0 ≤ pick n many ∧ pick n many < many := by
  unfold pick
  split
  · exact ⟨Int.emod_nonneg _ (by omega), Int.emod_lt_of_pos _ hm⟩
  · exact ⟨Int.emod_nonneg _ (by omega), Int.emod_lt_of_pos _ hm⟩

theorem ret_i64 {a b : Int} (h : a = b) : Ending.returned (.int .i64 a) = .returned (.int .i64 b) := by rw [h]

theorem picked_any (n many : Int) (w : World) (h1 : -9223372036854775808 ≤ n) (h2 : n ≤ 9223372036854775807) (hm : 0 < many) (hm2 : many ≤ 9223372036854775807) :
    Calls Tryd.prog 10 #[.int .i64 n, .int .i64 many] w fun e w' => e = .returned (.int .i64 (pick n many)) ∧ w' = w := by
  by_cases hn : n < 0
  · go_enter Tryd.func10, Tryd.ntmps10
    go_wp2
    go_ret
    exact ⟨ret_i64 (by unfold pick; rw [if_pos hn, ← Int.neg_tmod, Int.tmod_eq_emod_of_nonneg (by omega)]), rfl⟩
  · go_enter Tryd.func10, Tryd.ntmps10
    go_wp2
    go_ret
    exact ⟨ret_i64 (by unfold pick; rw [if_neg (by omega)]), rfl⟩
end Go.Proofs.YtmpefofifbehjabDoor
/-
  Slices that are cut, as one equation each.
-/
namespace Go.Proofs.YtmpefofifbehjabDoor
open Go.RowKit

theorem getD_dropped (l : List Int) (n i : Nat) : (l.drop n).getD i 0 = l.getD (n + i) 0 := by simp [List.getD]
theorem getD_taken (l : List Int) (n i : Nat) (h : i < n) : (l.take n).getD i 0 = l.getD i 0 := by simp [List.getD, h]

theorem Sl.window {w : World} {a : Option Addr} {n cap : Nat} {l : List Int} (h : Sl w (.slice a n cap) l) (lo hi : Nat) (hlo : lo ≤ hi) (hhi : hi ≤ l.length) : Sl w (sliced a lo hi cap 1) ((l.take hi).drop lo) := by
  have hd := (h.take hi hhi).len
  have hb := h.byte
  obtain ⟨⟨a', cap', e, hc, hn, h1⟩, hla, hba⟩ := h
  simp only [Value.slice.injEq] at e
  obtain ⟨rfl, rfl, rfl⟩ := e
  have hl : ((l.take hi).drop lo).length = hi - lo := by rw [List.length_drop, List.length_take]; omega
  have hbb : ∀ x ∈ (l.take hi).drop lo, 0 ≤ x ∧ x < 256 := fun x hx => hb x (List.mem_of_mem_take (List.mem_of_mem_drop hx))
  cases a with
  | none =>
    have c0 := hn rfl
    subst c0
    have h0 : l.length = 0 := by omega
    refine ⟨⟨_, _, by rw [hl]; rfl, by omega, fun _ => by omega, .inl (List.eq_nil_of_length_eq_zero (by omega))⟩, by omega, hbb⟩
  | some ad =>
    refine ⟨⟨_, _, by rw [hl]; rfl, by omega, (by intro h; split at h <;> simp at h), ?_⟩, by omega, hbb⟩
    rcases Nat.eq_or_lt_of_le hlo with he | hlt
    · exact .inl (List.eq_nil_of_length_eq_zero (by omega))
    · rcases h1 with rfl | ⟨b, off, e2, hbs, hcell⟩
      · simp at hhi; omega
      · simp only [Option.some.injEq] at e2
        subst e2
        refine .inr ⟨b, off + lo, ?_, hbs, fun i hi2 => ?_⟩
        · rw [if_neg (by omega)]
          simp [Addr.add]
        · rw [hl] at hi2
          rw [Nat.add_assoc, hcell (lo + i) (by omega), getD_dropped, getD_taken _ _ _ (by omega)]

theorem size5w (w : World) : (Go.sizeOf 5).run Tryd.prog w = .ok 1 w := by
  obtain ⟨i, hi, _, hsz, _⟩ := info_parts info5
  simp [sizeOf, typeInfo, hi, hsz]

set_option maxRecDepth 100000 in
theorem Sl.upTo {w : World} {a : Option Addr} {n cap : Nat} {l : List Int} (h : Sl w (.slice a n cap) l) (hi : Nat) (hhi : hi ≤ l.length) :
    ∃ a' c', (∀ W, (Instr.slice 47 (.slice a n cap) none (some (.int .i64 (hi : Int))) none).run Tryd.prog W = .ok (.slice a' hi c') W) ∧ Sl w (.slice a' hi c') (l.take hi) := by
  have hw := h.window 0 hi (by omega) hhi
  obtain ⟨⟨a', cap', e, hc, hn, h1⟩, hla, hba⟩ := h
  simp only [Value.slice.injEq] at e
  obtain ⟨rfl, rfl, rfl⟩ := e
  refine ⟨_, _, fun W => ?_, by simpa [sliced] using hw⟩
  rw [run_slice_h (P := Tryd.prog) W 47 a _ cap Tryd.underlying47 .i64 _ (by omega) (by omega)]
  have e : Tryd.prog.elem 47 = 5 := by kernel_rfl
  rw [e, size5w]
  simp [Result.andThen, sliced]
set_option maxRecDepth 100000 in
theorem Sl.from {w : World} {a : Option Addr} {n cap : Nat} {l : List Int} (h : Sl w (.slice a n cap) l) (lo : Nat) (hlo : lo ≤ l.length) :
    ∃ a' c', (∀ W, (Instr.slice 47 (.slice a n cap) (some (.int .i64 (lo : Int))) none none).run Tryd.prog W = .ok (.slice a' (n - lo) c') W) ∧ Sl w (.slice a' (n - lo) c') (l.drop lo) := by
  have hw := h.window lo l.length hlo (Nat.le_refl _)
  obtain ⟨⟨a', cap', e, hc, hn, h1⟩, hla, hba⟩ := h
  simp only [Value.slice.injEq] at e
  obtain ⟨rfl, rfl, rfl⟩ := e
  refine ⟨_, _, fun W => ?_, by simpa [sliced] using hw⟩
  rw [run_slice_l (P := Tryd.prog) W 47 a _ cap Tryd.underlying47 .i64 _ (by omega) (by omega)]
  have e : Tryd.prog.elem 47 = 5 := by kernel_rfl
  rw [e, size5w]
  simp [Result.andThen, sliced]
end Go.Proofs.YtmpefofifbehjabDoor
/-
  The walks of a command's numbers: where they stand, how they are put behind bytes, and how they are read.
-/
namespace Go.Proofs.YtmpefofifbehjabDoor
open Go.RowKit
set_option linter.unusedVariables false

theorem oBelow_row {B : Nat} {a w : World} (h : Below B a w) {g : Nat} (hg : B ≤ g) (cs : Array Value) : Below B a (w.setRow g cs) :=
  h.trans ⟨rfl, rfl, rfl, by simp, fun k hk => setRow_other w g k cs (by omega)⟩
/-- pointers to the five numbers of a command that lies at g -/
def ptA (g : Nat) : Array Value := #[.pointer (some ⟨g, 0, none⟩), .pointer (some ⟨g, 1, none⟩), .pointer (some ⟨g, 2, none⟩), .pointer (some ⟨g, 3, none⟩), .pointer (some ⟨g, 4, none⟩)]
theorem ptA_one (g : Nat) : (ptA g).all (·.oneCell') = true := by simp [ptA, Value.oneCell']
def noPt : Array Value := #[.pointer none, .pointer none, .pointer none, .pointer none, .pointer none]
theorem ptInfo (g : Nat) : (Tryd.prog.info? 79).map (·.size) = some (ptA g).size := by show _ = some 5; kernel_rfl
set_option maxRecDepth 100000 in
theorem pt_index (g : Nat) (j : Nat) (hj : j < 5) : ∀ W, (Instr.index 79 (.agg (ptA g)) (.int .i64 (j : Int))).run Tryd.prog W = .ok (.pointer (some ⟨g, j, none⟩)) W := by
  intro W
  rcases (by omega : j = 0 ∨ j = 1 ∨ j = 2 ∨ j = 3 ∨ j = 4) with rfl | rfl | rfl | rfl | rfl
  all_goals kernel_rfl

set_option maxHeartbeats 1000000 in
set_option maxRecDepth 100000 in
theorem numbersOf_any (g : Nat) (w : World) :
    Calls Tryd.prog 34 #[.pointer (some ⟨g, 0, none⟩)] w fun e w' => e = .returned (.agg (ptA g)) ∧ Below w.heap.size w w' := by
  have bb : Below w.heap.size w (w.alloc (.cells noPt 79)) := (Below.refl _ _).alloc (Nat.le_refl _) _
  have rr := heap_alloc_new w (.cells noPt 79)
  have hi := ptInfo g
  go_enter Tryd.func34, Tryd.ntmps34
  go_wp2_with fail
  refine wp_region_quiet_tail 16 (by kernel_rfl) (by kernel_rfl) ?_
  simp only [List.take_succ_cons, List.take_zero, List.drop_succ_cons, List.drop_zero]
  repeat (go_big_quiet_step (fail))
  refine wpQuiet_nil ?_
  have rr' : (w.alloc (.cells noPt 79)).drew.heap[w.heap.size]? = some (.cells noPt 79) := rr
  have bb' : Below w.heap.size w (w.alloc (.cells noPt 79)).drew := bb.drew
  have hn : noPt = #[.pointer none, .pointer none, .pointer none, .pointer none, .pointer none] := rfl
  rw [← hn]
  generalize (w.alloc (.cells noPt 79)).drew = W at rr' bb'
  go_wp2_with (refine wpList_store_row rfl 79 (.tmp 2) (.tmp 18) rfl w.heap.size (ptA g) rfl rfl 79 _ rr' hi rfl (ptA_one g) ?_)
  have r2 := setRow_heap W w.heap.size _ (ptA g) 79 _ rr'
  exact bodyPost_ret (v := .agg (ptA g)) (results_cell_row rfl _ _ w.heap.size 79 _ (0, 0) _ rfl r2 Tryd.underlying79 rfl hi) rfl ⟨rfl, oBelow_row bb' (Nat.le_refl _) _⟩

theorem Sl.one2O (w : World) (b b' : Int) (e : TypeId) {g : Nat} (hg : g = w.heap.size) (hb : 0 ≤ b ∧ b < 256) (he : b' = b) : Sl (w.alloc (.cells #[.int .u8 b'] e)) (.slice (some ⟨g, 0, none⟩) 1 1) [b] := by
  subst he; exact Sl.one w b' e hg hb
theorem put_len (l : List Int) (n : Int) (j : Nat) (hl : l.length ≤ 100000) : (l ++ (headL n).take j).length + 1 ≤ 140737488355328 := by
  have : ((headL n).take j).length ≤ 4 := by rw [List.length_take]; exact Nat.min_le_right _ _
  rw [List.length_append]; omega

set_option maxHeartbeats 1000000 in
set_option maxRecDepth 100000 in
theorem putNumber_any (v : Value) (l : List Int) (n : Int) (B : Nat) (w : World) (ho : w.ownsRow B 5 1 v l.length (l.map (Value.int .u8))) (hB : B ≤ w.heap.size) (hl : l.length ≤ 100000) (n0 : 0 ≤ n) (n1 : n < 2147483648) :
    Calls Tryd.prog 35 #[v, .int .i64 n] w fun e w' => ∃ v', e = .returned v' ∧ w'.ownsRow B 5 1 v' (l ++ headL n).length ((l ++ headL n).map (Value.int .u8)) ∧ Below B w w' := by
  have HO0 : Hid (w.ownsRow B 5 1 v (l ++ (headL n).take 0).length ((l ++ (headL n).take 0).map (Value.int .u8))) := by unfold Hid; simpa using ho
  clear ho
  go_enter Tryd.func35, Tryd.ntmps35
  go_wp2_with fail
  go_loopw [0, 5] (fun v iv wr => ∃ j : Nat, j ≤ 4 ∧ iv = .int .i64 (3 - (j : Int)) ∧ wr.ownsRow B 5 1 v (l ++ (headL n).take j).length ((l ++ (headL n).take j).map (Value.int .u8)) ∧ Below B w wr) (fun _ iv _ => (intOf iv + 1).toNat)
  case atStart => exact ⟨0, by omega, rfl, HO0.out, Below.refl _ _⟩
  case round =>
    obtain ⟨j, hj, rfl, hown, hbel⟩ := hrel
    clear HO0
    have hlt := hown.lt
    have hz : B ≤ wr.heap.size := Nat.le_trans hB hbel.size
    have HL := put_len l n
    by_cases hj4 : j < 4
    · rcases (by omega : j = 0 ∨ j = 1 ∨ j = 2 ∨ j = 3) with rfl | rfl | rfl | rfl
      · rw [show (3 : Int) - ((0 : Nat) : Int) = 3 from rfl]
        have hx : Hid (l ++ (headL n).take 1 = l ++ (headL n).take 0 ++ [n / 16777216 % 256]) := by unfold Hid; rw [List.append_assoc]; rfl
        have hLL := HL 0 hl
        clear HL
        generalize l ++ (headL n).take 0 = L at hown hx hLL
        go_wp2_with (at_builtin; refine wpList_append_sl _ rfl _ _ 47 rfl B 5 Tryd.underlying47 info5 _ _ rfl rfl L [n / 16777216 % 256] (hown.alloc _) (Sl.one2O _ (n / 16777216 % 256) _ _ rfl (by omega) (by omega)) hLL (by simp; omega) ?_)
        intro v2 w2 ho2 hg2
        have hb2 : Below B w w2 := (hbel.alloc hz _).grown hg2 (by simp; omega) (fun k hk => (hlt k hk).1)
        have HO2 : Hid (w2.ownsRow B 5 1 v2 (l ++ (headL n).take 1).length ((l ++ (headL n).take 1).map (Value.int .u8))) := by
          unfold Hid
          rw [hx.out]
          simpa using ho2
        clear ho2 hg2 hown hlt hbel hLL hx
        go_wp2
        go_roundw
        case rel => exact ⟨1, by omega, rfl, HO2.out, hb2⟩
        case measure => simp [intOf]
      · rw [show (3 : Int) - ((1 : Nat) : Int) = 2 from rfl]
        have hx : Hid (l ++ (headL n).take 2 = l ++ (headL n).take 1 ++ [n / 65536 % 256]) := by unfold Hid; rw [List.append_assoc]; rfl
        have hLL := HL 1 hl
        clear HL
        generalize l ++ (headL n).take 1 = L at hown hx hLL
        go_wp2_with (at_builtin; refine wpList_append_sl _ rfl _ _ 47 rfl B 5 Tryd.underlying47 info5 _ _ rfl rfl L [n / 65536 % 256] (hown.alloc _) (Sl.one2O _ (n / 65536 % 256) _ _ rfl (by omega) (by omega)) hLL (by simp; omega) ?_)
        intro v2 w2 ho2 hg2
        have hb2 : Below B w w2 := (hbel.alloc hz _).grown hg2 (by simp; omega) (fun k hk => (hlt k hk).1)
        have HO2 : Hid (w2.ownsRow B 5 1 v2 (l ++ (headL n).take 2).length ((l ++ (headL n).take 2).map (Value.int .u8))) := by
          unfold Hid
          rw [hx.out]
          simpa using ho2
        clear ho2 hg2 hown hlt hbel hLL hx
        go_wp2
        go_roundw
        case rel => exact ⟨2, by omega, rfl, HO2.out, hb2⟩
        case measure => simp [intOf]
      · rw [show (3 : Int) - ((2 : Nat) : Int) = 1 from rfl]
        have hx : Hid (l ++ (headL n).take 3 = l ++ (headL n).take 2 ++ [n / 256 % 256]) := by unfold Hid; rw [List.append_assoc]; rfl
        have hLL := HL 2 hl
        clear HL
        generalize l ++ (headL n).take 2 = L at hown hx hLL
        go_wp2_with (at_builtin; refine wpList_append_sl _ rfl _ _ 47 rfl B 5 Tryd.underlying47 info5 _ _ rfl rfl L [n / 256 % 256] (hown.alloc _) (Sl.one2O _ (n / 256 % 256) _ _ rfl (by omega) (by omega)) hLL (by simp; omega) ?_)
        intro v2 w2 ho2 hg2
        have hb2 : Below B w w2 := (hbel.alloc hz _).grown hg2 (by simp; omega) (fun k hk => (hlt k hk).1)
        have HO2 : Hid (w2.ownsRow B 5 1 v2 (l ++ (headL n).take 3).length ((l ++ (headL n).take 3).map (Value.int .u8))) := by
          unfold Hid
          rw [hx.out]
          simpa using ho2
        clear ho2 hg2 hown hlt hbel hLL hx
        go_wp2
        go_roundw
        case rel => exact ⟨3, by omega, rfl, HO2.out, hb2⟩
        case measure => simp [intOf]
      · rw [show (3 : Int) - ((3 : Nat) : Int) = 0 from rfl]
        have hx : Hid (l ++ (headL n).take 4 = l ++ (headL n).take 3 ++ [n % 256]) := by unfold Hid; rw [List.append_assoc]; rfl
        have hLL := HL 3 hl
        clear HL
        generalize l ++ (headL n).take 3 = L at hown hx hLL
        go_wp2_with (at_builtin; refine wpList_append_sl _ rfl _ _ 47 rfl B 5 Tryd.underlying47 info5 _ _ rfl rfl L [n % 256] (hown.alloc _) (Sl.one2O _ (n % 256) _ _ rfl (by omega) (by omega)) hLL (by simp; omega) ?_)
        intro v2 w2 ho2 hg2
        have hb2 : Below B w w2 := (hbel.alloc hz _).grown hg2 (by simp; omega) (fun k hk => (hlt k hk).1)
        have HO2 : Hid (w2.ownsRow B 5 1 v2 (l ++ (headL n).take 4).length ((l ++ (headL n).take 4).map (Value.int .u8))) := by
          unfold Hid
          rw [hx.out]
          simpa using ho2
        clear ho2 hg2 hown hlt hbel hLL hx
        go_wp2
        go_roundw
        case rel => exact ⟨4, by omega, rfl, HO2.out, hb2⟩
        case measure => simp [intOf]
    · obtain rfl : j = 4 := by omega
      rw [show (3 : Int) - ((4 : Nat) : Int) = -1 from rfl]
      have HO : Hid _ := hown
      clear hown hlt HL
      go_wp2
      go_ret
      exact ⟨_, rfl, HO.out, hbel⟩
theorem Sl.spotO {w : World} {a : Option Addr} {n cap : Nat} {l : List Int} (h : Sl w (.slice a n cap) l) (k : Nat) (hk : k < l.length) : ∃ bd od, a = some ⟨bd, od, none⟩ ∧ bd < w.heap.size ∧ w.cell? ⟨bd, od + k, none⟩ = some (.int .u8 (l.getD k 0)) := by
  obtain ⟨⟨a', cap', e, hc, hn, h1⟩, hla, hba⟩ := h
  simp only [Value.slice.injEq] at e
  obtain ⟨rfl, rfl, rfl⟩ := e
  rcases h1 with rfl | ⟨b, off, rfl, hb, hcell⟩
  · simp at hk
  · exact ⟨b, off, rfl, hb, hcell k hk⟩
end Go.Proofs.YtmpefofifbehjabDoor
