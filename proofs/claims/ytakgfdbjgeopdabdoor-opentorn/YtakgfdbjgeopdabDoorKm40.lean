/-
  What regions of the order that draw share.
-/
import Derived.Test.YtakgfdbjgeopdabDoorKm15
import Derived.Test.YtakgfdbjgeopdabDoorKm27
import Derived.Test.YtakgfdbjgeopdabDoorKm1
import Derived.Test.YtakgfdbjgeopdabDoorKm3
import Derived.Test.YtakgfdbjgeopdabDoorKm28
namespace Go.Proofs.YtakgfdbjgeopdabDoor
open Go.RowKit
set_option linter.unusedVariables false

set_option maxRecDepth 100000 in
theorem run_toByte (c : Int) (h0 : 0 ≤ c) (h1 : c < 256) (w : World) : (convert 3 5 (.int .i64 c)).run Tryd.prog w = .ok (.int .u8 c) w := by
  have hm : c % 256 = c := by omega
  have h3 := Tryd.underlying3
  have h5 := Tryd.underlying5
  simp [go_sem, h3, h5]
  rw [IntKind.wrap_u8]
  exact hm
set_option maxRecDepth 100000 in
theorem run_toNum (c : Int) (h0 : 0 ≤ c) (h1 : c < 256) (w : World) : (convert 5 3 (.int .u8 c)).run Tryd.prog w = .ok (.int .i64 c) w := by
  have h3 := Tryd.underlying3
  have h5 := Tryd.underlying5
  simp [go_sem, h3, h5]
  rw [IntKind.wrap_i64]
  omega
/-- a number of a byte's size, made a byte -/
theorem yieldByte {ops : Array Oper} {S : World → Prop} {op : Oper} {a : Act} (hw : Region.wanted op (yielded ops a.tmps) = true) (x : Operand) (ho : op.op = .convert 3 5 x) (c : Int) (hx : a.eval x = .int .i64 c) (h0 : 0 ≤ c) (h1 : c < 256) :
    YieldsIf Tryd.prog ops S op (.int .u8 c) a :=
  .inl ⟨hw, fun w _ => by
    unfold execOp
    simp only [ho, hx, Sem.run_bind, run_toByte c h0 h1 w, Result.andThen_ok, Sem.run_pure]⟩
/-- a byte made a number -/
theorem yieldNum {ops : Array Oper} {S : World → Prop} {op : Oper} {a : Act} (hw : Region.wanted op (yielded ops a.tmps) = true) (x : Operand) (ho : op.op = .convert 5 3 x) (c : Int) (hx : a.eval x = .int .u8 c) (h0 : 0 ≤ c) (h1 : c < 256) :
    YieldsIf Tryd.prog ops S op (.int .i64 c) a :=
  .inl ⟨hw, fun w _ => by
    unfold execOp
    simp only [ho, hx, Sem.run_bind, run_toNum c h0 h1 w, Result.andThen_ok, Sem.run_pure]⟩
set_option maxRecDepth 100000 in
/-- the place of a byte -/
theorem runIndexB (b o n c : Nat) (i : Nat) (hi : i < n) (w : World) : (Instr.indexAt 23 (.slice (some ⟨b, o, none⟩) n c) (.int .i64 (i : Int))).run Tryd.prog w = .ok (.pointer (some ⟨b, o + i, none⟩)) w := by
  have e : Tryd.prog.elem 23 = 5 := by kernel_rfl
  rw [run_indexAt_slice (P := Tryd.prog) w 23 _ n c .i64 _ Tryd.underlying23, if_pos ⟨by omega, by omega⟩, e, size5w]
  simp [Result.andThen, Addr.add_mid]
theorem yieldIndexB {ops : Array Oper} {S : World → Prop} {op : Oper} {a : Act} (hw : Region.wanted op (yielded ops a.tmps) = true) (x y : Operand) (ho : op.op = .indexAddr 23 x y)
    (b o n c i : Nat) (hi : i < n) (hx : a.eval x = .slice (some ⟨b, o, none⟩) n c) (hy : a.eval y = .int .i64 (i : Int)) : YieldsIf Tryd.prog ops S op (.pointer (some ⟨b, o + i, none⟩)) a :=
  .inl ⟨hw, fun w _ => by
    unfold execOp
    simp only [ho, hx, hy, Sem.run_bind, Sem.run_pure, Result.andThen_ok, runIndexB b o n c i hi w]⟩
set_option maxRecDepth 100000 in
/-- a load of a whole command -/
theorem yieldCm {ops : Array Oper} {S : World → Prop} {op : Oper} {a : Act} (hw : Region.wanted op (yielded ops a.tmps) = true) (x : Operand) (ho : op.op = .load 32 x)
    (g : Nat) (hx : a.eval x = .pointer (some ⟨g, 0, none⟩)) (k c s n v : Int) (hS : ∀ w, S w → Bc w g k c s n v) : YieldsIf Tryd.prog ops S op (.agg (cmA k c s n v)) a :=
  .inl ⟨hw, fun w hw' => by
    unfold execOp
    simp only [ho, hx, Instr.loadAt, Instr.sureAddr, Sem.run_bind, Sem.run_pure, Result.andThen_ok, run_loadVar_row w g 32 32 _ (0, 0) _ (hS w hw').row Tryd.underlying32 rfl (comInfo k c s n v)]⟩
/-- regions that may be walked in several orders, all of which end alike -/
theorem o_merge3 {P : Program} {id : Nat} {ops : Array Oper} {K : Act → World → Prop} {Q : Exit → Act → World → Prop} {a : Act} {w : World} (R : Nat → Value → Value → World → Prop) {A : Nat → Value → Value → Act}
    (hreg : ∀ K' : Act → World → Prop, Hid (∀ g x y W2, R g x y W2 → K' (A g x y) W2) → (Code.region id ops true).wp P (Exit.then K' Q) a w) (hrest : ∀ g x y W2, R g x y W2 → K (A g x y) W2) : (Code.region id ops true).wp P (Exit.then K Q) a w := hreg K hrest
theorem o_mergeV {P : Program} {id : Nat} {ops : Array Oper} {K : Act → World → Prop} {Q : Exit → Act → World → Prop} {a : Act} {w : World} (R : Value → World → Prop) {A : Value → Act}
    (hreg : ∀ K' : Act → World → Prop, Hid (∀ x W2, R x W2 → K' (A x) W2) → (Code.region id ops true).wp P (Exit.then K' Q) a w) (hrest : ∀ x W2, R x W2 → K (A x) W2) : (Code.region id ops true).wp P (Exit.then K Q) a w := hreg K hrest
theorem o_mergeV2 {P : Program} {id : Nat} {ops : Array Oper} {K : Act → World → Prop} {Q : Exit → Act → World → Prop} {a : Act} {w : World} (R : Value → Value → World → Prop) {A : Value → Value → Act}
    (hreg : ∀ K' : Act → World → Prop, Hid (∀ x y W2, R x y W2 → K' (A x y) W2) → (Code.region id ops true).wp P (Exit.then K' Q) a w) (hrest : ∀ x y W2, R x y W2 → K (A x y) W2) : (Code.region id ops true).wp P (Exit.then K Q) a w := hreg K hrest
theorem o_mergeN {P : Program} {id : Nat} {ops : Array Oper} {K : Act → World → Prop} {Q : Exit → Act → World → Prop} {a : Act} {w : World} (R : Nat → World → Prop) {A : Nat → Act}
    (hreg : ∀ K' : Act → World → Prop, Hid (∀ x W2, R x W2 → K' (A x) W2) → (Code.region id ops true).wp P (Exit.then K' Q) a w) (hrest : ∀ x W2, R x W2 → K (A x) W2) : (Code.region id ops true).wp P (Exit.then K Q) a w := hreg K hrest
end Go.Proofs.YtakgfdbjgeopdabDoor
/-
  The walk of lists of bytes that are joined.
-/
namespace Go.Proofs.YtakgfdbjgeopdabDoor
open Go.RowKit

set_option maxHeartbeats 1000000 in
theorem joined_any (g n cap : Nat) (vs : List Value) (ls : List (List Int)) (w : World) (hg : g < w.heap.size) (hn : n ≤ 10) (hls : ls.length = n)
    (hc : ∀ i, i < n → w.cell? ⟨g, i, none⟩ = some (vs.getD i undef)) (hs : ∀ i, i < n → Sl w (vs.getD i undef) (ls.getD i [])) (hl : ∀ l ∈ ls, l.length ≤ 1000) :
    Calls Tryd.prog 18 #[.slice (some ⟨g, 0, none⟩) n cap] w fun e w' => ∃ v', e = .returned v' ∧ w'.ownsRow w.heap.size 5 1 v' ls.flatten.length (ls.flatten.map (Value.int .u8)) ∧ Below w.heap.size w w' := by
  have HLS : Hid (ls.length = n) := hls
  have HC : Hid _ := hc
  have HS : Hid _ := hs
  have HL : Hid _ := hl
  clear hls hc hs hl
  go_enter Tryd.func18, Tryd.ntmps18
  go_wp2_with fail
  go_loopw [3, 4] (fun v i wr => ∃ j : Nat, j ≤ n ∧ i = .int .i64 j ∧ wr.ownsRow w.heap.size 5 1 v (ls.take j).flatten.length ((ls.take j).flatten.map (Value.int .u8)) ∧ Below w.heap.size w wr) (fun _ i _ => n - (intOf i).toNat)
  case atStart => exact ⟨0, by omega, rfl, World.ownsRow_nil _ _ _ _, Below.refl _ _⟩
  case round =>
    obtain ⟨j, hj, rfl, hown, hb⟩ := hrel
    have hlt := hown.lt
    by_cases hjn : j < n
    · have hfl := flat_le (ls.take j) (fun l hl => HL.out l (List.mem_of_mem_take hl))
      have hf2 : (ls.take j).flatten.length ≤ 10000 := by rw [List.length_take] at hfl; omega
      have HF : Hid ((ls.take (j + 1)).flatten = (ls.take j).flatten ++ ls.getD j []) := flat_snoc ls j (by rw [HLS.out]; exact hjn)
      have sj := (HS.out j hjn).below hb
      have cj := (hb.cell (p := ⟨g, j, none⟩) hg).trans (HC.out j hjn)
      have hlj : (ls.getD j []).length ≤ 1000 := by
        have hj2 : j < ls.length := by rw [HLS.out]; exact hjn
        have : ls.getD j [] = ls[j] := by simp [List.getD, List.getElem?_eq_getElem hj2]
        rw [this]; exact HL.out _ (List.getElem_mem hj2)
      generalize vs.getD j undef = vj at sj cj
      generalize ls.getD j [] = lj at sj HF hlj
      generalize (ls.take j).flatten = pre at hown HF hf2
      clear hfl
      have sj2 := sj
      obtain ⟨⟨aj, kj, rfl, _, _, _⟩, _, _⟩ := sj
      go_wp2_with (at_builtin; refine wpList_append_sl _ rfl _ _ 23 rfl w.heap.size 5 Tryd.underlying23 info5 _ _ rfl rfl pre lj hown sj2 (by omega) hb.size ?_)
      intro v2 w2 ho2 hg2
      have ho2' : w2.ownsRow w.heap.size 5 1 v2 (pre ++ lj).length ((pre ++ lj).map (Value.int .u8)) := by simpa using ho2
      have hb2 : Below w.heap.size w w2 := hb.grown hg2 hb.size (fun k hk => (hlt k hk).1)
      clear ho2 hg2 hown hlt hb sj2 cj
      go_wp2
      go_roundw
      case rel => exact ⟨j + 1, by omega, by go_num, by rw [HF.out]; exact ho2', hb2⟩
      case measure => simp [intOf]; omega
    · have HJ : Hid (ls.take j = ls) := by unfold Hid; exact List.take_of_length_le (by rw [HLS.out]; omega)
      go_wp2
      go_ret
      refine ⟨u3, rfl, ?_, hb⟩
      rw [HJ.out] at hown
      exact hown

theorem joined2 (v0 v1 : Value) (l0 l1 : List Int) (w : World) (e : TypeId) (g : Nat) (hg : g = w.heap.size) (h0 : Sl w v0 l0) (h1 : Sl w v1 l1) (q0 : l0.length ≤ 1000) (q1 : l1.length ≤ 1000) :
    Calls Tryd.prog 18 #[.slice (some ⟨g, 0, none⟩) 2 2] (w.alloc (.cells #[v0, v1] e)) fun e w' => ∃ v', e = .returned v' ∧ w'.ownsRow w.heap.size 5 1 v' (l0 ++ l1).length ((l0 ++ l1).map (Value.int .u8)) ∧ Below w.heap.size w w' := by
  subst hg
  have ba : Below w.heap.size w (w.alloc (.cells #[v0, v1] e)) := (Below.refl _ _).alloc (Nat.le_refl _) _
  refine (joined_any w.heap.size 2 2 [v0, v1] [l0, l1] (w.alloc (.cells #[v0, v1] e)) (by simp) (by omega) rfl ?_ ?_ ?_).mono ?_
  · intro i hi
    rw [cell_of_row _ _ i _ _ _ (heap_alloc_new w _)]
    obtain rfl | rfl : i = 0 ∨ i = 1 := by omega
    all_goals rfl
  · intro i hi
    obtain rfl | rfl : i = 0 ∨ i = 1 := by omega
    · exact h0.below ba
    · exact h1.below ba
  · intro l hl
    simp only [List.mem_cons, List.not_mem_nil, or_false] at hl
    rcases hl with rfl | rfl
    · exact q0
    · exact q1
  · rintro e w2 ⟨v2, rfl, ho, hb⟩
    exact ⟨v2, rfl, owns_lower (by simpa using ho) (by simp), ba.trans (hb.mono (by simp))⟩

theorem joined3 (v0 v1 v2 : Value) (l0 l1 l2 : List Int) (w : World) (e : TypeId) (g : Nat) (hg : g = w.heap.size) (h0 : Sl w v0 l0) (h1 : Sl w v1 l1) (h2 : Sl w v2 l2) (q0 : l0.length ≤ 1000) (q1 : l1.length ≤ 1000) (q2 : l2.length ≤ 1000) :
    Calls Tryd.prog 18 #[.slice (some ⟨g, 0, none⟩) 3 3] (w.alloc (.cells #[v0, v1, v2] e)) fun e w' => ∃ v', e = .returned v' ∧ w'.ownsRow w.heap.size 5 1 v' (l0 ++ l1 ++ l2).length ((l0 ++ l1 ++ l2).map (Value.int .u8)) ∧ Below w.heap.size w w' := by
  subst hg
  have ba : Below w.heap.size w (w.alloc (.cells #[v0, v1, v2] e)) := (Below.refl _ _).alloc (Nat.le_refl _) _
  refine (joined_any w.heap.size 3 3 [v0, v1, v2] [l0, l1, l2] (w.alloc (.cells #[v0, v1, v2] e)) (by simp) (by omega) rfl ?_ ?_ ?_).mono ?_
  · intro i hi
    rw [cell_of_row _ _ i _ _ _ (heap_alloc_new w _)]
    obtain rfl | rfl | rfl : i = 0 ∨ i = 1 ∨ i = 2 := by omega
    all_goals rfl
  · intro i hi
    obtain rfl | rfl | rfl : i = 0 ∨ i = 1 ∨ i = 2 := by omega
    · exact h0.below ba
    · exact h1.below ba
    · exact h2.below ba
  · intro l hl
    simp only [List.mem_cons, List.not_mem_nil, or_false] at hl
    rcases hl with rfl | rfl | rfl
    · exact q0
    · exact q1
    · exact q2
  · rintro e w2 ⟨v2, rfl, ho, hb⟩
    exact ⟨v2, rfl, owns_lower (by simpa [Nat.add_assoc, List.append_assoc] using ho) (by simp), ba.trans (hb.mono (by simp))⟩
end Go.Proofs.YtakgfdbjgeopdabDoor
/-
  The walk of the keeping statements' comparison.
-/
namespace Go.Proofs.YtakgfdbjgeopdabDoor
open Go.RowKit

theorem keep_same (va vb : Value) (la lb : List Int) (w : World) (ha : Sl w va la) (hb : Sl w vb lb) :
    Calls Tryd.prog 9 #[va, vb] w fun e w' => e = .returned (.bool (decide (la = lb))) ∧ w' = w := by
  have c1 := run_convert_sl (P := Tryd.prog) w 23 9 5 Tryd.underlying23 Tryd.underlying5 Tryd.underlying9 va la ha
  have c2 := run_convert_sl (P := Tryd.prog) w 23 9 5 Tryd.underlying23 Tryd.underlying5 Tryd.underlying9 vb lb hb
  have e := strOfNums_inj ha.byte hb.byte
  have H : Hid (strOfNums la = strOfNums lb ↔ la = lb) := e
  clear e
  go_enter Tryd.func9, Tryd.ntmps9
  go_wp2
  go_ret
  refine ⟨ret_bool ?_, rfl⟩
  have h := H.out
  rw [Bool.eq_iff_iff, decide_eq_true_iff, ← h, beq_iff_eq]
  exact ⟨fun e => ByteArray.ext (Array.ext' (by rw [← ba_toList, ← ba_toList, e])), fun e => by rw [e]⟩
end Go.Proofs.YtakgfdbjgeopdabDoor
