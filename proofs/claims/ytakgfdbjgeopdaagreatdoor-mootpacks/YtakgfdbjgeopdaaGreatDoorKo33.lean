/-
  What regions of the order that draw share.
-/
import Derived.Test.YtakgfdbjgeopdaaGreatDoorKo11
import Derived.Test.YtakgfdbjgeopdaaGreatDoorKo21
import Derived.Test.YtakgfdbjgeopdaaGreatDoorKo1
import Derived.Test.YtakgfdbjgeopdaaGreatDoorKo32
import Derived.Test.YtakgfdbjgeopdaaGreatDoorKo22
import Derived.Test.YtakgfdbjgeopdaaGreatDoorKo31
namespace Go.Proofs.YtakgfdbjgeopdaaGreatDoor
open Go.RowKit
set_option linter.unusedVariables false

set_option maxRecDepth 100000 in
theorem run_toByte (c : Int) (h0 : 0 ≤ c) (h1 : c < 256) (w : World) : (convert 3 5 (.int .i64 c)).run Tryz.prog w = .ok (.int .u8 c) w := by
  have hm : c % 256 = c := by omega
  have h3 := Tryz.underlying3
  have h5 := Tryz.underlying5
  simp [go_sem, h3, h5]
  rw [IntKind.wrap_u8]
  exact hm
set_option maxRecDepth 100000 in
theorem run_toNum (c : Int) (h0 : 0 ≤ c) (h1 : c < 256) (w : World) : (convert 5 3 (.int .u8 c)).run Tryz.prog w = .ok (.int .i64 c) w := by
  have h3 := Tryz.underlying3
  have h5 := Tryz.underlying5
  simp [go_sem, h3, h5]
  rw [IntKind.wrap_i64]
  omega
/-- a number of a byte's size, made a byte -/
theorem yieldByte {ops : Array Oper} {S : World → Prop} {op : Oper} {a : Act} (hw : Region.wanted op (yielded ops a.tmps) = true) (x : Operand) (ho : op.op = .convert 3 5 x) (c : Int) (hx : a.eval x = .int .i64 c) (h0 : 0 ≤ c) (h1 : c < 256) :
    YieldsIf Tryz.prog ops S op (.int .u8 c) a :=
  .inl ⟨hw, fun w _ => by
    unfold execOp
    simp only [ho, hx, Sem.run_bind, run_toByte c h0 h1 w, Result.andThen_ok, Sem.run_pure]⟩
/-- a byte made a number -/
theorem yieldNum {ops : Array Oper} {S : World → Prop} {op : Oper} {a : Act} (hw : Region.wanted op (yielded ops a.tmps) = true) (x : Operand) (ho : op.op = .convert 5 3 x) (c : Int) (hx : a.eval x = .int .u8 c) (h0 : 0 ≤ c) (h1 : c < 256) :
    YieldsIf Tryz.prog ops S op (.int .i64 c) a :=
  .inl ⟨hw, fun w _ => by
    unfold execOp
    simp only [ho, hx, Sem.run_bind, run_toNum c h0 h1 w, Result.andThen_ok, Sem.run_pure]⟩
set_option maxRecDepth 100000 in
/-- the place of a byte -/
theorem runIndexB (b o n c : Nat) (i : Nat) (hi : i < n) (w : World) : (Instr.indexAt 26 (.slice (some ⟨b, o, none⟩) n c) (.int .i64 (i : Int))).run Tryz.prog w = .ok (.pointer (some ⟨b, o + i, none⟩)) w := by
  have e : Tryz.prog.elem 26 = 5 := by kernel_rfl
  rw [run_indexAt_slice (P := Tryz.prog) w 26 _ n c .i64 _ Tryz.underlying26, if_pos ⟨by omega, by omega⟩, e, size5w]
  simp [Result.andThen, Addr.add_mid]
theorem yieldIndexB {ops : Array Oper} {S : World → Prop} {op : Oper} {a : Act} (hw : Region.wanted op (yielded ops a.tmps) = true) (x y : Operand) (ho : op.op = .indexAddr 26 x y)
    (b o n c i : Nat) (hi : i < n) (hx : a.eval x = .slice (some ⟨b, o, none⟩) n c) (hy : a.eval y = .int .i64 (i : Int)) : YieldsIf Tryz.prog ops S op (.pointer (some ⟨b, o + i, none⟩)) a :=
  .inl ⟨hw, fun w _ => by
    unfold execOp
    simp only [ho, hx, hy, Sem.run_bind, Sem.run_pure, Result.andThen_ok, runIndexB b o n c i hi w]⟩
set_option maxRecDepth 100000 in
/-- a load of a whole command -/
theorem yieldCm {ops : Array Oper} {S : World → Prop} {op : Oper} {a : Act} (hw : Region.wanted op (yielded ops a.tmps) = true) (x : Operand) (ho : op.op = .load 25 x)
    (g : Nat) (hx : a.eval x = .pointer (some ⟨g, 0, none⟩)) (k c s n v : Int) (hS : ∀ w, S w → Bc w g k c s n v) : YieldsIf Tryz.prog ops S op (.agg (cmA k c s n v)) a :=
  .inl ⟨hw, fun w hw' => by
    unfold execOp
    simp only [ho, hx, Instr.loadAt, Instr.sureAddr, Sem.run_bind, Sem.run_pure, Result.andThen_ok, run_loadVar_row w g 25 25 _ (0, 0) _ (hS w hw').row Tryz.underlying25 rfl (comInfo k c s n v)]⟩
/-- regions that may be walked in several orders, all of which end alike -/
theorem o_merge3 {P : Program} {id : Nat} {ops : Array Oper} {K : Act → World → Prop} {Q : Exit → Act → World → Prop} {a : Act} {w : World} (R : Nat → Value → Value → World → Prop) {A : Nat → Value → Value → Act}
    (hreg : ∀ K' : Act → World → Prop, Hid (∀ g x y W2, R g x y W2 → K' (A g x y) W2) → (Code.region id ops true).wp P (Exit.then K' Q) a w) (hrest : ∀ g x y W2, R g x y W2 → K (A g x y) W2) : (Code.region id ops true).wp P (Exit.then K Q) a w := hreg K hrest
theorem o_mergeV {P : Program} {id : Nat} {ops : Array Oper} {K : Act → World → Prop} {Q : Exit → Act → World → Prop} {a : Act} {w : World} (R : Value → World → Prop) {A : Value → Act}
    (hreg : ∀ K' : Act → World → Prop, Hid (∀ x W2, R x W2 → K' (A x) W2) → (Code.region id ops true).wp P (Exit.then K' Q) a w) (hrest : ∀ x W2, R x W2 → K (A x) W2) : (Code.region id ops true).wp P (Exit.then K Q) a w := hreg K hrest
theorem o_mergeV2 {P : Program} {id : Nat} {ops : Array Oper} {K : Act → World → Prop} {Q : Exit → Act → World → Prop} {a : Act} {w : World} (R : Value → Value → World → Prop) {A : Value → Value → Act}
    (hreg : ∀ K' : Act → World → Prop, Hid (∀ x y W2, R x y W2 → K' (A x y) W2) → (Code.region id ops true).wp P (Exit.then K' Q) a w) (hrest : ∀ x y W2, R x y W2 → K (A x y) W2) : (Code.region id ops true).wp P (Exit.then K Q) a w := hreg K hrest
theorem o_mergeN {P : Program} {id : Nat} {ops : Array Oper} {K : Act → World → Prop} {Q : Exit → Act → World → Prop} {a : Act} {w : World} (R : Nat → World → Prop) {A : Nat → Act}
    (hreg : ∀ K' : Act → World → Prop, Hid (∀ x W2, R x W2 → K' (A x) W2) → (Code.region id ops true).wp P (Exit.then K' Q) a w) (hrest : ∀ x W2, R x W2 → K (A x) W2) : (Code.region id ops true).wp P (Exit.then K Q) a w := hreg K hrest
end Go.Proofs.YtakgfdbjgeopdaaGreatDoor
/-
  Bytes that are built. No program is named here.
-/
namespace Go.Proofs.YtakgfdbjgeopdaaGreatDoor
open Go.RowKit
set_option linter.unusedVariables false

theorem Sl.builtO (w : World) (l : List Int) (e : TypeId) {g : Nat} (hg : g = w.heap.size) {n : Nat} (hn : n = l.length) (hl : l.length ≤ 140737488351232) (hb : ∀ x ∈ l, 0 ≤ x ∧ x < 256) :
    Sl (w.alloc (.cells (l.map (Value.int .u8)).toArray e)) (.slice (some ⟨g, 0, none⟩) n n) l := by
  subst hg hn
  refine ⟨⟨_, _, rfl, Nat.le_refl _, by simp, ?_⟩, hl, hb⟩
  refine .inr ⟨w.heap.size, 0, rfl, by simp, fun i hi => ?_⟩
  rw [cell_of_row _ _ (0 + i) _ _ _ (heap_alloc_new w (.cells (l.map (Value.int .u8)).toArray e))]
  simp [List.getElem?_eq_getElem hi, List.getD]

end Go.Proofs.YtakgfdbjgeopdaaGreatDoor
/-
  The walks of the document's own answer: a command's bytes, and the command of bytes.
-/
namespace Go.Proofs.YtakgfdbjgeopdaaGreatDoor
open Go.RowKit
set_option linter.unusedVariables false

theorem oHead_any (n : Int) (w : World) (n0 : 0 ≤ n) (n1 : n < 2147483648) :
    Calls Tryz.prog 52 #[.int .i64 n] w fun e w' => ∃ v', e = .returned v' ∧ Sl w' v' (headL n) ∧ Below w.heap.size w w' := by
  obtain ⟨m, rfl⟩ := Int.eq_ofNat_of_zero_le n0
  have h1 : (m : Int) / 16777216 % 256 = (m : Int) / 16777216 := by omega
  have h2 : (m : Int) / 65536 % 256 % 256 = (m : Int) / 65536 % 256 := by omega
  have h3 : (m : Int) / 256 % 256 % 256 = (m : Int) / 256 % 256 := by omega
  have h4 : (m : Int) % 256 % 256 = (m : Int) % 256 := by omega
  have HL : Hid ([(m : Int) / 16777216, (m : Int) / 65536 % 256, (m : Int) / 256 % 256, (m : Int) % 256] = headL (m : Int)) := by
    show _ = [_, _, _, _]
    rw [h1]
  have HB : Hid (∀ x ∈ headL (m : Int), 0 ≤ x ∧ x < 256) := headL_byte _
  go_enter Tryz.func52, Tryz.ntmps52
  go_wp2
  go_ret
  refine ⟨_, rfl, ?_, (Below.refl _ _).alloc (Nat.le_refl _) _⟩
  have hb := HB.out
  rw [← HL.out] at hb ⊢
  exact Sl.builtO w _ _ rfl rfl (by simp) hb

set_option maxHeartbeats 1000000 in
set_option maxRecDepth 100000 in
theorem comBytes_any (k c s n v : Int) (w : World) :
    Calls Tryz.prog 25 #[.agg (cmA k c s n v)] w fun e w' => ∃ v', e = .returned (.tuple #[v', .int .i64 (comE k c s n v)]) ∧ w'.ownsRow w.heap.size 5 1 v' (encL k c s n v).length ((encL k c s n v).map (Value.int .u8)) ∧ Below w.heap.size w w' := by
  have bb : Below w.heap.size w (w.alloc (.cells (cmA k c s n v) 25)) := (Below.refl _ _).alloc (Nat.le_refl _) _
  have bc := Bc.made w k c s n v
  have hi := comInfo k c s n v
  generalize hW : w.alloc (.cells (cmA k c s n v) 25) = W at bb bc
  go_enter Tryz.func25, Tryz.ntmps25
  go_wp2_with (refine wpList_load_row rfl 25 _ rfl w.heap.size rfl 25 _ (0, 0) _ bc.row Tryz.underlying25 rfl hi ?_)
  clear hW
  refine (comFault_any k c s n v W).mono ?_
  rintro e w1 ⟨rfl, b1⟩
  have d1 : Below w.heap.size w w1 := bb.trans (b1.mono bb.size)
  replace bc := bc.below b1
  clear b1 bb
  by_cases h1 : comE k c s n v = 0
  · have HE : Hid (encL k c s n v = encK [k, c, s, n, v] 5) := (encL_ok h1).trans (encK_five k c s n v).symm
    have hz := comE_zero h1
    have HS : Hid (∀ j, j < 5 → 0 ≤ [k, c, s, n, v].getD j 0 ∧ [k, c, s, n, v].getD j 0 < 2147483648) := by
      unfold Hid
      obtain ⟨hk, hc⟩ := hz
      unfold InC at hc
      intro j hj
      rcases (by omega : j = 0 ∨ j = 1 ∨ j = 2 ∨ j = 3 ∨ j = 4) with rfl | rfl | rfl | rfl | rfl
      · show 0 ≤ k ∧ k < 2147483648; omega
      · show 0 ≤ c ∧ c < 2147483648; omega
      · show 0 ≤ s ∧ s < 2147483648; omega
      · show 0 ≤ n ∧ n < 2147483648; omega
      · show 0 ≤ v ∧ v < 2147483648; omega
    have HL : Hid ([k, c, s, n, v].length = 5) := rfl
    have HZ : Hid (comE k c s n v = 0) := h1
    rw [h1]
    clear hz h1
    obtain ⟨c0, c1, c2, c3, c4⟩ := cmA_cells bc.row
    have b2 : Below w1.heap.size w1 (w1.alloc (.cells (cmA k c s n v) 3)) := (Below.refl _ _).alloc (Nat.le_refl _) _
    have r2 := heap_alloc_new w1 (.cells (cmA k c s n v) 3)
    have hN : ∀ wr, Below (w1.heap.size + 1) (w1.alloc (.cells (cmA k c s n v) 3)) wr → ∀ j, j < 5 → wr.cell? ⟨w1.heap.size, j, none⟩ = some (.int .i64 ([k, c, s, n, v].getD j 0)) := fun wr hb j hj => by
      rw [cell_of_row _ _ j _ _ _ ((hb.block w1.heap.size (by omega)).trans r2)]
      rcases (by omega : j = 0 ∨ j = 1 ∨ j = 2 ∨ j = 3 ∨ j = 4) with rfl | rfl | rfl | rfl | rfl <;> rfl
    have HN : Hid _ := hN
    have z2 : (w1.alloc (.cells (cmA k c s n v) 3)).heap.size = w1.heap.size + 1 := by simp
    have hW2 : w1.alloc (.cells #[.int .i64 k, .int .i64 c, .int .i64 s, .int .i64 n, .int .i64 v] 3) = w1.alloc (.cells (cmA k c s n v) 3) := rfl
    clear bc hN r2
    generalize w1.alloc (.cells (cmA k c s n v) 3) = W2 at b2 HN z2 hW2
    go_wp2_with fail
    clear hW2 c0 c1 c2 c3 c4
    have hwB : w.heap.size ≤ w1.heap.size := d1.size
    have d2 := d1.trans (b2.mono hwB)
    generalize [k, c, s, n, v] = L at HE HS HN HL
    generalize w1.heap.size = B at b2 HN hwB z2
    go_loopw [6, 7] (fun v iv wr => ∃ j : Nat, j ≤ 5 ∧ iv = .int .i64 (j : Int) ∧ wr.ownsRow (B + 1) 5 1 v (encK L j).length ((encK L j).map (Value.int .u8)) ∧ Below (B + 1) W2 wr) (fun _ iv _ => (5 - intOf iv).toNat)
    case atStart => exact ⟨0, by omega, rfl, World.ownsRow_nil _ _ _ _, Below.refl _ _⟩
    case round =>
      obtain ⟨j, hj, rfl, hown, hbel⟩ := hrel
      by_cases hj5 : j < 5
      · have hji : (j : Int) < 5 := by omega
        have hcj := HN.out _ hbel j hj5
        have hsj := HS.out j hj5
        have HK : Hid (encK L (j + 1) = encK L j ++ headL (L.getD j 0)) := encK_succ L j (by rw [HL.out]; omega)
        have HQ := encK_length L j
        have HO : Hid _ := hown
        have hz : B + 1 ≤ wr.heap.size := by have := hbel.size; omega
        have hlt := hown.lt
        clear hown
        generalize L.getD j 0 = X at hcj hsj HK
        go_wp2_with fail
        refine (oHead_any X wr hsj.1 hsj.2).mono ?_
        rintro e w5 ⟨v5, rfl, s5, b5⟩
        have o5 := owns_belowO HO.out b5
        have d5 := hbel.trans (b5.mono hz)
        have z5 : B + 1 ≤ w5.heap.size := Nat.le_trans hz b5.size
        have hlt5 := o5.lt
        clear HO hcj hsj b5 hlt
        generalize encK L j = E at o5 HK HQ
        generalize headL X = Y at s5 HK
        have hY := s5.len
        go_wp2_with (at_builtin; refine wpList_append_sl _ rfl _ _ 26 rfl (B + 1) 5 Tryz.underlying26 info5 _ _ rfl rfl E Y o5 s5 (by omega) z5 ?_)
        intro v6 w6 o6 g6
        have d6 : Below (B + 1) W2 w6 := d5.grown g6 z5 (fun k hk => (hlt5 k hk).1)
        have HO6 : Hid (w6.ownsRow (B + 1) 5 1 v6 (encK L (j + 1)).length ((encK L (j + 1)).map (Value.int .u8))) := by unfold Hid; rw [HK.out]; simpa using o6
        clear o6 g6 HK HQ o5 s5 hlt5
        go_wp2
        go_roundw
        case rel => exact ⟨j + 1, by omega, by go_num, HO6.out, d6⟩
        case measure => simp [intOf]; omega
      · obtain rfl : j = 5 := by omega
        rw [show ((5 : Nat) : Int) = 5 from rfl]
        have HO : Hid _ := hown
        clear hown
        go_wp2
        go_ret2
        rw [HE.out, HZ.out]
        exact ⟨_, rfl, owns_lower HO.out (by omega), d2.trans (hbel.mono (by omega))⟩
  · have HE : Hid (encL k c s n v = []) := encL_no h1
    go_wp2
    go_ret2
    rw [HE.out]
    exact ⟨_, rfl, World.ownsRow_nil _ _ _ _, d1⟩
end Go.Proofs.YtakgfdbjgeopdaaGreatDoor
/-
  The walk of the document's own answer: what is granted.
-/
namespace Go.Proofs.YtakgfdbjgeopdaaGreatDoor
open Go.RowKit
set_option linter.unusedVariables false

set_option maxHeartbeats 2000000 in
set_option maxRecDepth 100000 in
theorem granted_any (vk : Value) (key : List Int) (c r u : Int) (w : World) (hk : Sl w vk key) :
    Calls Tryz.prog 24 #[vk, .agg (tkA c r u)] w fun e w' => ∃ v', e = .returned (.tuple #[v', .int .i64 (graE key c r u)]) ∧ w'.ownsRow w.heap.size 5 1 v' (graL key c r u).length ((graL key c r u).map (Value.int .u8)) ∧ Below w.heap.size w w' := by
  have bb : Below w.heap.size w (w.alloc (.cells (tkA c r u) 23)) := (Below.refl _ _).alloc (Nat.le_refl _) _
  have bt := Bt.made w c r u
  have hi := tokInfo c r u
  have hlen := hk.len
  obtain ⟨ak, ck, rfl⟩ := hk.shape
  generalize hW : w.alloc (.cells (tkA c r u) 23) = W at bb bt
  by_cases h1 : key.length = 32
  · have HE := graE_tok (key := key) (c := c) (r := r) (u := u) h1
    have HK : Hid (key.length = 32) := h1
    rw [h1] at hk ⊢
    clear h1 hlen
    go_enter Tryz.func24, Tryz.ntmps24
    go_wp2_with (refine wpList_load_row rfl 23 _ rfl w.heap.size rfl 23 _ (0, 0) _ bt.row Tryz.underlying23 rfl hi ?_)
    clear hW
    refine (tokFault_any c r u W).mono ?_
    rintro e w1 ⟨rfl, b1⟩
    have d1 := bb.trans (b1.mono bb.size)
    replace bt := bt.below b1
    clear b1 bb
    by_cases h2 : TokB c r u
    · have HZ : Hid (graE key c r u = 0) := HE.trans (tokE_ok h2)
      have HL : Hid (graL key c r u = tokL key c r u) := graL_ok HZ.out
      rw [tokE_ok h2]
      clear HE
      have HB : Hid (∀ x ∈ tokH c r u, 0 ≤ x ∧ x < 256) := tokH_byte h2
      obtain ⟨⟨hc0, hc1⟩, ⟨hr0, hr1⟩, hu0, hu1⟩ := h2
      obtain ⟨c0, c1, c2⟩ := tkA_cells bt.row
      have ltb := bt.lt
      have hcr : ∀ x ∈ [c, r], 0 ≤ x ∧ x < 256 := by
        intro x hx
        simp at hx
        rcases hx with rfl | rfl <;> omega
      clear bt
      go_wp2_with fail
      apply o_merge3 (fun g x y W2 => W2.ownsRow w1.heap.size 5 1 y (tokH c r u).length ((tokH c r u).map (Value.int .u8)) ∧ Below w1.heap.size w1 W2)
      · intro K2 HK2
        have ed : Below w1.heap.size w1 w1.drew := (Below.refl _ _).drew
        refine wp_region_held (S := fun w' => Below w1.heap.size w1 w') (by kernel_rfl) ?_
        have hS0 : (fun w' => Below w1.heap.size w1 w') w1.drew := ed
        refine heldTake (i := 0) 17 (v := .pointer (some ⟨w.heap.size, 0, none⟩)) rfl rfl (by kernel_rfl) (by kernel_rfl) (by kernel_rfl) (fun _ _ _ h => h) (Or.inl ⟨by rfl, fun _ _ => by kernel_rfl⟩) hS0 ?_
        simp only [Act.put, List.setIfInBounds_toArray, List.set_cons_zero, List.set_cons_succ]
        refine heldTake (i := 1) 18 (v := .int .i64 c) rfl rfl (by kernel_rfl) (by kernel_rfl) (by kernel_rfl) (fun _ _ _ h => h) (yieldCell (by rfl) 3 (.tmp 17) rfl _ Tryz.underlying3 rfl ⟨w.heap.size, 0, none⟩ rfl (.int .i64 c) (fun w' hw' => (hw'.cell (p := ⟨w.heap.size, 0, none⟩) ltb).trans c0)) hS0 ?_
        simp only [Act.put, List.setIfInBounds_toArray, List.set_cons_zero, List.set_cons_succ]
        refine heldTake (i := 2) 19 (v := .int .u8 c) rfl rfl (by kernel_rfl) (by kernel_rfl) (by kernel_rfl) (fun _ _ _ h => h) (yieldByte (by rfl) (.tmp 18) rfl c rfl hc0 (by omega)) hS0 ?_
        simp only [Act.put, List.setIfInBounds_toArray, List.set_cons_zero, List.set_cons_succ]
        refine heldTake (i := 3) 20 (v := .pointer (some ⟨w.heap.size, 1, none⟩)) rfl rfl (by kernel_rfl) (by kernel_rfl) (by kernel_rfl) (fun _ _ _ h => h) (Or.inl ⟨by rfl, fun _ _ => by kernel_rfl⟩) hS0 ?_
        simp only [Act.put, List.setIfInBounds_toArray, List.set_cons_zero, List.set_cons_succ]
        refine heldTake (i := 4) 21 (v := .int .i64 r) rfl rfl (by kernel_rfl) (by kernel_rfl) (by kernel_rfl) (fun _ _ _ h => h) (yieldCell (by rfl) 3 (.tmp 20) rfl _ Tryz.underlying3 rfl ⟨w.heap.size, 1, none⟩ rfl (.int .i64 r) (fun w' hw' => (hw'.cell (p := ⟨w.heap.size, 1, none⟩) ltb).trans c1)) hS0 ?_
        simp only [Act.put, List.setIfInBounds_toArray, List.set_cons_zero, List.set_cons_succ]
        refine heldTake (i := 5) 22 (v := .int .u8 r) rfl rfl (by kernel_rfl) (by kernel_rfl) (by kernel_rfl) (fun _ _ _ h => h) (yieldByte (by rfl) (.tmp 21) rfl r rfl hr0 (by omega)) hS0 ?_
        simp only [Act.put, List.setIfInBounds_toArray, List.set_cons_zero, List.set_cons_succ]
        refine heldTake (i := 7) 24 (v := .pointer (some ⟨w.heap.size, 2, none⟩)) rfl rfl (by kernel_rfl) (by kernel_rfl) (by kernel_rfl) (fun _ _ _ h => h) (Or.inl ⟨by rfl, fun _ _ => by kernel_rfl⟩) hS0 ?_
        simp only [Act.put, List.setIfInBounds_toArray, List.set_cons_zero, List.set_cons_succ]
        refine heldTake (i := 8) 25 (v := .int .i64 u) rfl rfl (by kernel_rfl) (by kernel_rfl) (by kernel_rfl) (fun _ _ _ h => h) (yieldCell (by rfl) 3 (.tmp 24) rfl _ Tryz.underlying3 rfl ⟨w.heap.size, 2, none⟩ rfl (.int .i64 u) (fun w' hw' => (hw'.cell (p := ⟨w.heap.size, 2, none⟩) ltb).trans c2)) hS0 ?_
        simp only [Act.put, List.setIfInBounds_toArray, List.set_cons_zero, List.set_cons_succ]
        refine heldTwo (i := 6) (i' := 9) (by kernel_rfl) ?_ ?_
        · obtain ⟨g, hg⟩ : ∃ g, g = w1.drew.heap.size := ⟨_, rfl⟩
          have aG : Below w1.drew.heap.size w1.drew (w1.drew.alloc (.cells #[.int .u8 c, .int .u8 r] 5)) := (Below.refl _ _).alloc (Nat.le_refl _) _
          have eG : Below w1.heap.size w1 (w1.drew.alloc (.cells #[.int .u8 c, .int .u8 r] 5)) := ed.trans (aG.mono ed.size)
          have sG : Sl (w1.drew.alloc (.cells #[.int .u8 c, .int .u8 r] 5)) (.slice (some ⟨g, 0, none⟩) 2 2) [c, r] := Sl.builtO w1.drew [c, r] 5 hg rfl (by simp) hcr
          refine (opRun (i := 6) (d := 23) (v := .slice (some ⟨g, 0, none⟩) 2 2) (w' := w1.drew.alloc (.cells #[.int .u8 c, .int .u8 r] 5)) rfl (by kernel_rfl) rfl (by rw [hg]; kernel_rfl) ⟨eG, ?_⟩)
          simp only [Act.put, List.setIfInBounds_toArray, List.set_cons_zero, List.set_cons_succ]
          refine heldOne (i := 9) (by kernel_rfl) (opCall (i := 9) (d := 26) (f := 52) (args := #[.int .i64 u]) rfl (by kernel_rfl) rfl (by kernel_rfl) ((oHead_any u _ hu0 (by omega)).mono ?_))
          rintro e w4 ⟨v4, rfl, s4, b4⟩
          have e4 : Below w1.heap.size w1 w4 := eG.trans (b4.mono eG.size)
          refine ⟨v4, rfl, e4, ?_⟩
          simp only [Act.put, List.setIfInBounds_toArray, List.set_cons_zero, List.set_cons_succ]
          refine heldOne (i := 10) (by kernel_rfl) (opCall (i := 10) (d := 27) (f := 27) (args := #[.slice (some ⟨g, 0, none⟩) 2 2, v4]) rfl (by kernel_rfl) rfl (by kernel_rfl) ((ref_joined _ _ [c, r] (headL u) _ (sG.below b4) s4 (by simp) (by rw [headL_length]; omega)).mono ?_))
          rintro e w5 ⟨v5, rfl, o5, b5⟩
          have e5 : Below w1.heap.size w1 w5 := e4.trans (b5.mono e4.size)
          have o5' : w5.ownsRow w1.heap.size 5 1 v5 (tokH c r u).length ((tokH c r u).map (Value.int .u8)) := owns_lower o5 e4.size
          refine ⟨v5, rfl, e5, ?_⟩
          simp only [Act.put, List.setIfInBounds_toArray, List.set_cons_zero, List.set_cons_succ]
          refine heldTake (i := 11) 7 (v := v5) rfl rfl (by kernel_rfl) (by kernel_rfl) (by kernel_rfl) (fun _ _ _ h => h) (Or.inl ⟨by rfl, fun _ _ => by kernel_rfl⟩) e5 ?_
          simp only [Act.put, List.setIfInBounds_toArray, List.set_cons_zero, List.set_cons_succ]
          exact wpAnyH_done (by kernel_rfl) (HK2.out g v4 v5 _ ⟨o5', e5⟩) _
        · refine (opCall (i := 9) (d := 26) (f := 52) (args := #[.int .i64 u]) rfl (by kernel_rfl) rfl (by kernel_rfl) ((oHead_any u _ hu0 (by omega)).mono ?_))
          rintro e w4 ⟨v4, rfl, s4, b4⟩
          have e4 : Below w1.heap.size w1 w4 := ed.trans (b4.mono ed.size)
          refine ⟨v4, rfl, e4, ?_⟩
          simp only [Act.put, List.setIfInBounds_toArray, List.set_cons_zero, List.set_cons_succ]
          obtain ⟨g, hg⟩ : ∃ g, g = w4.heap.size := ⟨_, rfl⟩
          have aG : Below w4.heap.size w4 (w4.alloc (.cells #[.int .u8 c, .int .u8 r] 5)) := (Below.refl _ _).alloc (Nat.le_refl _) _
          have eG : Below w1.heap.size w1 (w4.alloc (.cells #[.int .u8 c, .int .u8 r] 5)) := e4.trans (aG.mono e4.size)
          have sG : Sl (w4.alloc (.cells #[.int .u8 c, .int .u8 r] 5)) (.slice (some ⟨g, 0, none⟩) 2 2) [c, r] := Sl.builtO w4 [c, r] 5 hg rfl (by simp) hcr
          refine heldOne (i := 6) (by kernel_rfl) (opRun (i := 6) (d := 23) (v := .slice (some ⟨g, 0, none⟩) 2 2) (w' := w4.alloc (.cells #[.int .u8 c, .int .u8 r] 5)) rfl (by kernel_rfl) rfl (by rw [hg]; kernel_rfl) ⟨eG, ?_⟩)
          simp only [Act.put, List.setIfInBounds_toArray, List.set_cons_zero, List.set_cons_succ]
          refine heldOne (i := 10) (by kernel_rfl) (opCall (i := 10) (d := 27) (f := 27) (args := #[.slice (some ⟨g, 0, none⟩) 2 2, v4]) rfl (by kernel_rfl) rfl (by kernel_rfl) ((ref_joined _ _ [c, r] (headL u) _ sG (s4.below aG) (by simp) (by rw [headL_length]; omega)).mono ?_))
          rintro e w5 ⟨v5, rfl, o5, b5⟩
          have e5 : Below w1.heap.size w1 w5 := eG.trans (b5.mono eG.size)
          have o5' : w5.ownsRow w1.heap.size 5 1 v5 (tokH c r u).length ((tokH c r u).map (Value.int .u8)) := owns_lower o5 eG.size
          refine ⟨v5, rfl, e5, ?_⟩
          simp only [Act.put, List.setIfInBounds_toArray, List.set_cons_zero, List.set_cons_succ]
          refine heldTake (i := 11) 7 (v := v5) rfl rfl (by kernel_rfl) (by kernel_rfl) (by kernel_rfl) (fun _ _ _ h => h) (Or.inl ⟨by rfl, fun _ _ => by kernel_rfl⟩) e5 ?_
          simp only [Act.put, List.setIfInBounds_toArray, List.set_cons_zero, List.set_cons_succ]
          exact wpAnyH_done (by kernel_rfl) (HK2.out g v4 v5 _ ⟨o5', e5⟩) _
      intro g x y W2 hW2
      obtain ⟨o2, b2⟩ := hW2
      have d2 := d1.trans (b2.mono d1.size)
      have z2 := b2.size
      have hx := tokH_length c r u
      have s2 := Sl.ofOwns o2 (by rw [hx]; omega) HB.out
      clear c0 c1 c2 ltb hcr
      have hT := take16_length key (tokH c r u)
      have HT : Hid (tokL key c r u = tokH c r u ++ (macL key (tokH c r u)).take 16) := rfl
      generalize tokH c r u = X at o2 HB hx s2 hT HT
      go_wp2_with fail
      refine (macced_any _ y key X W2 (hk.below d2) s2 (by rw [HK.out]; omega) (by omega)).mono ?_
      rintro e w3 ⟨v3, rfl, o3, b3⟩
      have s3 := Sl.ofOwns o3 (by rw [macL_length]; omega) (macL_byte key X)
      have d3 := d2.trans (b3.mono d2.size)
      have s23 := s2.below b3
      obtain ⟨a3, c3, rfl⟩ := s3.shape
      obtain ⟨a4, c4, r4', s4⟩ := s3.upTo 16 (by rw [macL_length]; omega)
      rw [macL_length] at r4' ⊢
      have r4 : ∀ W, (Instr.slice 26 (.slice a3 32 c3) none (some (.int .i64 16)) none).run Tryz.prog W = .ok (.slice a4 16 c4) W := r4'
      clear r4' o3 b3 o2 s3
      generalize (macL key X).take 16 = Y at s4 HT hT
      go_wp2_with fail
      refine (ref_joined y _ X Y w3 s23 s4 (by omega) (by omega)).mono ?_
      rintro e w5 ⟨v5, rfl, o5, b5⟩
      have HO : Hid (w5.ownsRow w3.heap.size 5 1 v5 (tokL key c r u).length ((tokL key c r u).map (Value.int .u8))) := by unfold Hid; rw [HT.out]; exact o5
      have d5 := d3.trans (b5.mono d3.size)
      clear o5
      go_wp2
      go_ret2
      rw [HL.out, HZ.out]
      exact ⟨_, rfl, owns_lower HO.out d3.size, d5⟩
    · have HZ : Hid (graE key c r u = 2) := HE.trans (tokE_no h2)
      have HL : Hid (graL key c r u = []) := graL_no (by rw [HZ.out]; omega)
      rw [tokE_no h2]
      go_wp2
      go_ret2
      rw [HL.out, HZ.out]
      exact ⟨_, rfl, World.ownsRow_nil _ _ _ _, d1⟩
  · have h1' : ¬ (key.length : Int) = 32 := by omega
    have HZ : Hid (graE key c r u = 1) := graE_size h1
    have HL : Hid (graL key c r u = []) := graL_no (by rw [HZ.out]; omega)
    go_enter Tryz.func24, Tryz.ntmps24
    go_wp2
    go_ret2
    rw [HL.out, HZ.out]
    exact ⟨_, rfl, World.ownsRow_nil _ _ _ _, bb⟩
end Go.Proofs.YtakgfdbjgeopdaaGreatDoor
