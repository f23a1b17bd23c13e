/-
  The walk of the law PickTurns.
-/
import Derived.Test.YticjofjghpdmpabDoorPaxKeep
import Derived.Test.YticjofjghpdmpabDoorPaxPk
import Derived.Test.YticjofjghpdmpabDoorKEq
import Derived.Test.YticjofjghpdmpabDoorVRows
import Derived.Test.YticjofjghpdmpabDoorPlyOpen
namespace Go.Proofs.YticjofjghpdmpabDoor
open Go.RowKit
set_option linter.unusedVariables false

theorem yieldMul7 {ops : Array Oper} {S : World → Prop} {op : Oper} {a : Act} (hw : Region.wanted op (yielded ops a.tmps) = true) (x : Operand) (ho : op.op = .binOp .mul 3 x (.const (.int .i64 7)) 3) (n : Nat) (hx : a.eval x = .int .i64 (n : Int)) (h0 : n ≤ 1000) :
    YieldsIf Tryd.prog ops S op (.int .i64 ((n : Int) * 7)) a :=
  .inl ⟨hw, fun w _ => by
    have hc : a.eval (.const (.int .i64 7)) = .int .i64 7 := rfl
    unfold execOp
    simp only [ho, hx, hc]
    simp [go_sem]
    rw [IntKind.wrap_i64]
    omega⟩
theorem yieldRem20 {ops : Array Oper} {S : World → Prop} {op : Oper} {a : Act} (hw : Region.wanted op (yielded ops a.tmps) = true) (x : Operand) (ho : op.op = .binOp .rem 3 x (.const (.int .i64 20)) 3) (p : Int) (hx : a.eval x = .int .i64 p) (h0 : 0 ≤ p) (h1 : p < 1000000) :
    YieldsIf Tryd.prog ops S op (.int .i64 (p % 20)) a :=
  .inl ⟨hw, fun w _ => by
    have hc : a.eval (.const (.int .i64 20)) = .int .i64 20 := rfl
    have hm : p.tmod 20 = p % 20 := Int.tmod_eq_emod_of_nonneg h0
    unfold execOp
    simp only [ho, hx, hc]
    simp [go_sem, hm]⟩
/-- votes of rounds that are all different -/
def Diff (l : List Vt) : Prop := ∀ (i : Nat) (v : Vt), l[i]? = some v → VtMay v ∧ v.b.r = 1 + ((i : Int) * 7) % 20
theorem Diff.one {l : List Vt} (h : Diff l) (hl : l.length ≤ 20) {u v : Vt} (hu : u ∈ l) (hv : v ∈ l) (e : u.b = v.b) : u = v := by
  obtain ⟨i, hi⟩ := List.mem_iff_getElem?.1 hu
  obtain ⟨j, hj⟩ := List.mem_iff_getElem?.1 hv
  have h1 := (h i u hi).2
  have h2 := (h j v hj).2
  have li := (List.getElem?_eq_some_iff.1 hi).1
  have lj := (List.getElem?_eq_some_iff.1 hj).1
  rw [e] at h1
  have : i = j := by omega
  rw [this, hj] at hi
  cases hi
  rfl
theorem Diff.may {l : List Vt} (h : Diff l) : ∀ v ∈ l, VtMay v := fun v hv => by
  obtain ⟨i, hi⟩ := List.mem_iff_getElem?.1 hv
  exact (h i v hi).1
/-- the order of votes does not matter -/
theorem best_turn {l m : List Vt} (hp : ∀ v ∈ l, PrMay v.b) (h1 : ∀ u v, u ∈ l → v ∈ l → u.b = v.b → u = v) (hm : ∀ u, u ∈ m ↔ u ∈ l) : bestV m none = bestV l none := by
  have hp' : ∀ v ∈ m, PrMay v.b := fun v hv => hp v ((hm v).1 hv)
  rcases bestV_none l hp with ⟨rfl, e⟩ | ⟨x, e, hx, hk⟩
  · rcases bestV_none m hp' with ⟨_, e'⟩ | ⟨y, _, hy, _⟩
    · rw [e, e']
    · exact absurd ((hm y).1 hy) List.not_mem_nil
  · rcases bestV_none m hp' with ⟨rfl, _⟩ | ⟨y, e', hy, hk'⟩
    · exact absurd ((hm x).2 hx) List.not_mem_nil
    · have a1 := hk y ((hm y).1 hy)
      have a2 := hk' x ((hm x).2 hx)
      have : x.b = y.b := key_inj (hp x hx) (hp y ((hm y).1 hy)) (by omega)
      rw [e, e', h1 x y hx ((hm y).1 hy) this]
theorem Diff.turn {l : List Vt} (h : Diff l) (hl : l.length ≤ 20) (s : Int) (ls : List (List Vt)) (hm : ∀ u, u ∈ ls.flatten ↔ u ∈ l) : pickO ls s = pickO [l] s := by
  unfold pickO
  refine best_turn (fun v hv => ?_) (fun u v hu hv e => ?_) (fun u => ?_)
  · have := (ofSlot_mem.1 hv).1
    rw [show [l].flatten = l by simp] at this
    exact (h.may v this).2.1.pr
  · have hu' := (ofSlot_mem.1 hu).1
    have hv' := (ofSlot_mem.1 hv).1
    rw [show [l].flatten = l by simp] at hu' hv'
    exact h.one hl hu' hv' e
  · rw [ofSlot_mem, ofSlot_mem, hm, show [l].flatten = l by simp]
theorem Diff.pick {l : List Vt} (h : Diff l) (hl : l.length ≤ 20) {s : Int} (hs : 0 ≤ s ∧ s ≤ 39) (ls : List (List Vt)) (hm : ∀ u, u ∈ ls.flatten ↔ u ∈ l) : pickE ls s = 0 ∧ pickC ls s = pickC [l] s ∧ pickF ls s = l.any (fun u => decide (u.slot = s)) := by
  have hv : ∀ k ∈ ls, ∀ v ∈ k, VtMay v := fun k hk v hv => h.may v ((hm v).1 (List.mem_flatten.2 ⟨k, hk, hv⟩))
  have hv1 : ∀ k ∈ [l], ∀ v ∈ k, VtMay v := fun k hk v hv => by
    obtain rfl : k = l := by simpa using hk
    exact h.may v hv
  have e : pickE ls s = 0 := by unfold pickE; rw [if_neg (fun g => g hs), if_pos hv]
  have e1 : pickE [l] s = 0 := by unfold pickE; rw [if_neg (fun g => g hs), if_pos hv1]
  have ho := h.turn hl s ls hm
  refine ⟨e, by unfold pickC; rw [e, e1, ho], ?_⟩
  unfold pickF
  rw [if_pos e, ho]
  unfold pickO
  rw [show [l].flatten = l by simp]
  rcases bestV_none (ofSlot l s) (fun v hv => ((h.may v (ofSlot_mem.1 hv).1).2.1).pr) with ⟨e0, e2⟩ | ⟨x, e2, hx, _⟩
  · rw [e2]
    symm
    rw [Option.isSome_none, List.any_eq_false]
    intro u hu
    simp only [decide_eq_true_eq]
    intro hus
    have := ofSlot_mem.2 ⟨hu, hus⟩
    rw [e0] at this
    cases this
  · rw [e2]
    symm
    rw [Option.isSome_some, List.any_eq_true]
    exact ⟨x, (ofSlot_mem.1 hx).1, by simpa using (ofSlot_mem.1 hx).2⟩
/-- votes that lie alone, each in memory of its own -/
def Rs (w : World) (ys : List Value) (us : List Vt) : Prop := ys.length = us.length ∧ ∀ (i : Nat) (y : Value) (u : Vt), ys[i]? = some y → us[i]? = some u → ∃ g, y = .slice (some ⟨g, 0, none⟩) 1 1 ∧ w.heap[g]? = some (.cells (vtA u) 39 (0, 0))
/-- none of them is the block -/
def Apart (ys : List Value) (v : Value) : Prop := ∀ y ∈ ys, ∀ g, y.ownBlock = some g → v.ownBlock ≠ some g
theorem Rs.keep {w w' : World} {ys : List Value} {us : List Vt} (h : Rs w ys us) (hk : ∀ y ∈ ys, ∀ g, y.ownBlock = some g → g < w.heap.size → w'.heap[g]? = w.heap[g]?) : Rs w' ys us := by
  refine ⟨h.1, fun i y u hy hu => ?_⟩
  obtain ⟨g, rfl, hg⟩ := h.2 i y u hy hu
  exact ⟨g, rfl, (hk _ (List.mem_iff_getElem?.2 ⟨i, hy⟩) g rfl (Array.getElem?_eq_some_iff.1 hg).1).trans hg⟩
theorem Rs.block {w : World} {ys : List Value} {us : List Vt} (h : Rs w ys us) {y : Value} (hy : y ∈ ys) {g : Nat} (hg : y.ownBlock = some g) : ∃ u, w.heap[g]? = some (.cells (vtA u) 39 (0, 0)) := by
  obtain ⟨i, hi⟩ := List.mem_iff_getElem?.1 hy
  have hil := (List.getElem?_eq_some_iff.1 hi).1
  obtain ⟨g', rfl, hg'⟩ := h.2 i y _ hi (List.getElem?_eq_getElem (by rw [← h.1]; exact hil))
  obtain rfl : g' = g := by simpa [Value.ownBlock] using hg
  exact ⟨_, hg'⟩
theorem Rs.snoc {w : World} {ys : List Value} {us : List Vt} (h : Rs w ys us) {u : Vt} {g : Nat} (hg : w.heap[g]? = some (.cells (vtA u) 39 (0, 0))) : Rs w (ys ++ [.slice (some ⟨g, 0, none⟩) 1 1]) (us ++ [u]) := by
  have h0 := h.1
  refine ⟨by simp [h0], fun i y v h1 h2 => ?_⟩
  rcases Nat.lt_or_ge i ys.length with q | q
  · rw [List.getElem?_append_left q] at h1
    rw [List.getElem?_append_left (by omega)] at h2
    exact h.2 i y v h1 h2
  · rw [List.getElem?_append_right q] at h1
    rw [List.getElem?_append_right (by omega)] at h2
    have e1 : i - ys.length = 0 := by have := (List.getElem?_eq_some_iff.1 h1).1; simp at this; omega
    have e2 : i - us.length = 0 := by omega
    rw [e1] at h1
    rw [e2] at h2
    simp at h1 h2
    subst h1 h2
    exact ⟨g, rfl, hg⟩
theorem Rs.rv {w : World} {ys : List Value} {us : List Vt} (h : Rs w ys us) : Rv w ys (us.map fun u => [u]) := by
  refine ⟨by simp [h.1], fun i y l hy hl => ?_⟩
  rw [List.getElem?_map] at hl
  cases hu : us[i]? with
  | none => rw [hu] at hl; cases hl
  | some u =>
    rw [hu] at hl
    simp at hl
    subst hl
    obtain ⟨g, rfl, hg⟩ := h.2 i y u hy hu
    refine ⟨⟨by simp [vtL, vtC_length], .inr ⟨g, 1, _, rfl, Nat.zero_le _, hg, Nat.le_refl _, by decide, by simp [vtA, vtC], by simp [vtL, vtA, vtC]⟩⟩, by simp⟩
/-- a longer row is none of them -/
theorem Rs.longer {w : World} {ys : List Value} {us : List Vt} (h : Rs w ys us) {v : Value} {n : Nat} {xs : List Value} {base : Nat} (ho : w.ownsRow base 39 8 v n xs) (hn : 2 ≤ n) : Apart ys v := by
  intro y hy g hg e
  obtain ⟨u, hu⟩ := h.block hy hg
  rcases ho.2 with ⟨rfl, h0⟩ | ⟨q, cap, cur, rfl, _, hq, hnc, _, hcs, _⟩
  · cases e
  · have : q = g := by simpa [Value.ownBlock] using e
    subst this
    rw [hu] at hq
    simp only [Option.some.injEq, Obj.cells.injEq] at hq
    rw [← hq.1] at hcs
    simp [vtA, vtC] at hcs
    omega
theorem flat1 : ∀ us : List Vt, (us.map fun u => [u]).flatten = us
  | [] => rfl
  | u :: us => by rw [List.map_cons, List.flatten_cons, flat1 us]; rfl
theorem ownsTy {w w1 w' : World} {b1 e1 k1 n1 : Nat} {v1 : Value} {x1 : List Value} (h : w.ownsRow b1 e1 k1 v1 n1 x1) {b2 e2 k2 n2 : Nat} {v2 : Value} {x2 : List Value} (h2 : w.ownsRow b2 e2 k2 v2 n2 x2) (he : e1 ≠ e2) (hs : w.heap.size ≤ w1.heap.size) (hk : ∀ g, g < w.heap.size → w1.heap[g]? = w.heap[g]?) (hg : w1.grownBy w' v2.ownBlock) : w'.ownsRow b1 e1 k1 v1 n1 x1 := by
  refine ownsV_keep h (fun k hkk => ?_)
  have hlt := (h.lt k hkk).2
  rw [hg.block k (by omega) (fun e => ?_), hk k hlt]
  rcases h.2 with ⟨rfl, _⟩ | ⟨q, cap, cur, rfl, _, h3, _⟩
  · cases hkk
  · rcases h2.2 with ⟨rfl, _⟩ | ⟨q2, cap2, cur2, rfl, _, h4, _⟩
    · cases e
    · have e1' : q = k := by simpa [Value.ownBlock] using hkk
      have e2' : k = q2 := by simpa [Value.ownBlock] using e
      rw [e1', e2', h4] at h3
      simp only [Option.some.injEq, Obj.cells.injEq] at h3
      exact he h3.2.1.symm
theorem runBuildS1 (w : World) (a : Option Addr) (n c : Nat) : (Instr.buildSlice 45 1 #[(0, .slice a n c)]).run Tryd.prog w = .ok (.slice (some ⟨w.heap.size, 0, none⟩) 1 1) (w.alloc (.cells #[.slice a n c] 25)) := by
  obtain ⟨ie, hie, hz, hsz, _⟩ := info_parts infoSv
  refine run_buildSlice w 45 25 1 _ #[.slice a n c] ie (.slice none 0 0) Tryd.underlying45 hie hz (by rw [hsz]; decide) (by rw [hsz]; decide) ?_
  rw [hsz]
  kernel_rfl
theorem Svv.single {w : World} {x : Value} {l : List Vt} {t : TypeId} {g : Nat} {fr : Nat × Nat} (hg : w.heap[g]? = some (.cells #[x] t fr)) (hx : Sv w x l) : Svv w (.slice (some ⟨g, 0, none⟩) 1 1) [l] := by
  refine ⟨⟨some ⟨g, 0, none⟩, 1, rfl, .inr ⟨g, 0, rfl, (Array.getElem?_eq_some_iff.1 hg).1, fun i a hi => ?_⟩⟩, by simp⟩
  match i, hi with
  | 0, hi => simp at hi; subst hi; exact ⟨x, cell_of_row _ _ 0 _ _ _ hg, hx⟩
  | j + 1, hi => simp at hi
set_option maxHeartbeats 4000000 in
set_option maxRecDepth 100000 in
theorem pickTurns_walk (x : Value) (l : List Cmd) (sl : Int) (w : World) (h : Sp w x l) (hi : ∀ c ∈ l, PlyI c) (r1 : -9223372036854775808 ≤ sl) (r2 : sl ≤ 9223372036854775807) (ht : NTab w) :
    Calls Tryd.prog 8 #[x, .int .i64 sl] w fun e w' => e = .returned (.bool true) ∧ Below w.heap.size w w' := by
  have isl : I64 sl := ⟨r1, r2⟩
  have p3 := pick_range sl 3 (by omega)
  have hlen := h.len
  have HI : Hid (∀ c ∈ l, PlyI c) := hi
  obtain ⟨ax, cp, rfl⟩ := h.shape
  obtain ⟨N, hN⟩ : ∃ N, l.length = N := ⟨_, rfl⟩
  have HN : Hid (l.length = N) := hN
  rw [hN] at h hlen ⊢
  clear hN hi r1 r2
  go_enter Tryd.func8, Tryd.ntmps8
  go_wp2_with fail
  go_loopw [5, 6] (fun vv iv wr => ∃ (j : Nat) (VS : List Vt), j ≤ N ∧ j ≤ 20 ∧ VS.length = j ∧ iv = .int .i64 (j : Int) ∧ Diff VS ∧ wr.ownsRow w.heap.size 39 8 vv VS.length (vtL VS) ∧ Below w.heap.size w wr) (fun _ iv _ => ((N : Int) - intOf iv).toNat)
  case atStart => exact ⟨0, [], by omega, by omega, rfl, rfl, fun i v hv => by simp at hv, World.ownsRow_nil _ _ _ _, Below.refl _ _⟩
  case round =>
    obtain ⟨j, VS, hj, hj20, hVS, rfl, hdf, hown, hbel⟩ := hrel
    have HD : Hid (Diff VS) := hdf
    have HO : Hid (wr.ownsRow w.heap.size 39 8 u5 VS.length (vtL VS)) := hown
    have hlt := hown.lt
    have hz := hbel.size
    clear hdf hown
    by_cases hjj : j < N ∧ j < 20
    · obtain ⟨hjN, hj2⟩ := hjj
      have hji : (j : Int) < (N : Int) := by omega
      have hji2 : (j : Int) < 20 := by omega
      obtain ⟨ply, hv⟩ : ∃ c, l[j]? = some c := ⟨_, List.getElem?_eq_getElem (by have := HN.out; omega)⟩
      obtain ⟨b, off, rfl, ltb, hr⟩ := h.spot j ply hv
      have hpi := HI.out ply (List.mem_iff_getElem?.2 ⟨j, hv⟩)
      obtain ⟨pk, pc, ps, pn, pv⟩ := ply
      obtain ⟨ipk, ipc, ips, ipn, ipv⟩ := hpi
      simp only at ipk ipc ips ipn ipv
      have q3 := pick_range pn 3 (by omega)
      have q5 := pick_range pc 5 (by omega)
      have q50 := pick_range pv 50 (by omega)
      have hvm : VtMay (⟨pick pn 3, ⟨1 + ((j : Int) * 7) % 20, pick pc 5⟩, ⟨2, 0, pick pv 50, 0, 0⟩⟩ : Vt) := ⟨by simp only; omega, by simp only [BalMay]; omega, by show comE 2 0 (pick pv 50) 0 0 = 0; exact comE_ok (by omega) (by unfold InC; omega) (by omega)⟩
      have HD2 : Hid (Diff (VS ++ [(⟨pick pn 3, ⟨1 + ((j : Int) * 7) % 20, pick pc 5⟩, ⟨2, 0, pick pv 50, 0, 0⟩⟩ : Vt)])) := by
        intro i v hi
        rcases Nat.lt_or_ge i VS.length with g | g
        · rw [List.getElem?_append_left g] at hi
          exact HD.out i v hi
        · rw [List.getElem?_append_right g] at hi
          have e1 : i - VS.length = 0 := by have := (List.getElem?_eq_some_iff.1 hi).1; simp at this; omega
          rw [e1] at hi
          simp at hi
          subst hi
          have : i = j := by omega
          subst this
          exact ⟨hvm, rfl⟩
      clear hv hvm
      go_wp2_with fail
      apply p_mergeB (fun y W2 => W2.ownsRow w.heap.size 39 8 y (VS ++ [(⟨pick pn 3, ⟨1 + ((j : Int) * 7) % 20, pick pc 5⟩, ⟨2, 0, pick pv 50, 0, 0⟩⟩ : Vt)]).length (vtL (VS ++ [(⟨pick pn 3, ⟨1 + ((j : Int) * 7) % 20, pick pc 5⟩, ⟨2, 0, pick pv 50, 0, 0⟩⟩ : Vt)])) ∧ Below w.heap.size w W2)
      · intro K2 HK2
        have ed : Below w.heap.size w wr.drew := hbel.drew
        refine wp_region_held (S := fun w' => Below w.heap.size w w') (by kernel_rfl) ?_
        have hS0 : (fun w' => Below w.heap.size w w') wr.drew := ed
        refine heldTake (i := 0) 32 (v := u5) rfl rfl (by kernel_rfl) (by kernel_rfl) (by kernel_rfl) (fun _ _ _ h => h) (Or.inl ⟨by rfl, fun _ _ => by kernel_rfl⟩) hS0 ?_
        simp only [Act.put, List.setIfInBounds_toArray, List.set_cons_zero, List.set_cons_succ]
        refine heldTake (i := 1) 33 (v := .slice (some ⟨b, off, none⟩) N cp) rfl rfl (by kernel_rfl) (by kernel_rfl) (by kernel_rfl) (fun _ _ _ h => h) (Or.inl ⟨by rfl, fun _ _ => by kernel_rfl⟩) hS0 ?_
        simp only [Act.put, List.setIfInBounds_toArray, List.set_cons_zero, List.set_cons_succ]
        refine heldTake (i := 2) 34 (v := .int .i64 (j : Int)) rfl rfl (by kernel_rfl) (by kernel_rfl) (by kernel_rfl) (fun _ _ _ h => h) (Or.inl ⟨by rfl, fun _ _ => by kernel_rfl⟩) hS0 ?_
        simp only [Act.put, List.setIfInBounds_toArray, List.set_cons_zero, List.set_cons_succ]
        refine heldTake (i := 3) 35 (v := .pointer (some ⟨b, off + 5 * j, none⟩)) rfl rfl (by kernel_rfl) (by kernel_rfl) (by kernel_rfl) (fun _ _ _ h => h) (yieldIndexP (by rfl) (.tmp 33) (.tmp 34) rfl b off N cp j hjN rfl rfl) hS0 ?_
        simp only [Act.put, List.setIfInBounds_toArray, List.set_cons_zero, List.set_cons_succ]
        refine heldTake (i := 4) 36 (v := .pointer (some ⟨b, off + 5 * j + 3, none⟩)) rfl rfl (by kernel_rfl) (by kernel_rfl) (by kernel_rfl) (fun _ _ _ h => h) (Or.inl ⟨by rfl, fun _ _ => by kernel_rfl⟩) hS0 ?_
        simp only [Act.put, List.setIfInBounds_toArray, List.set_cons_zero, List.set_cons_succ]
        refine heldTake (i := 5) 37 (v := .int .i64 pn) rfl rfl (by kernel_rfl) (by kernel_rfl) (by kernel_rfl) (fun _ _ _ h => h) (yieldCell (by rfl) 3 (.tmp 36) rfl _ Tryd.underlying3 rfl ⟨b, off + 5 * j + 3, none⟩ rfl (.int .i64 pn) (fun w' hw' => (hw'.cell (p := ⟨b, off + 5 * j + 3, none⟩) ltb).trans (hr 3 _ rfl))) hS0 ?_
        simp only [Act.put, List.setIfInBounds_toArray, List.set_cons_zero, List.set_cons_succ]
        refine heldTake (i := 7) 39 (v := .int .i64 (j : Int)) rfl rfl (by kernel_rfl) (by kernel_rfl) (by kernel_rfl) (fun _ _ _ h => h) (Or.inl ⟨by rfl, fun _ _ => by kernel_rfl⟩) hS0 ?_
        simp only [Act.put, List.setIfInBounds_toArray, List.set_cons_zero, List.set_cons_succ]
        refine heldTake (i := 8) 40 (v := .int .i64 ((j : Int) * 7)) rfl rfl (by kernel_rfl) (by kernel_rfl) (by kernel_rfl) (fun _ _ _ h => h) (yieldMul7 (by rfl) (.tmp 39) rfl j rfl (by omega)) hS0 ?_
        simp only [Act.put, List.setIfInBounds_toArray, List.set_cons_zero, List.set_cons_succ]
        refine heldTake (i := 9) 41 (v := .int .i64 (((j : Int) * 7) % 20)) rfl rfl (by kernel_rfl) (by kernel_rfl) (by kernel_rfl) (fun _ _ _ h => h) (yieldRem20 (by rfl) (.tmp 40) rfl ((j : Int) * 7) rfl (by omega) (by omega)) hS0 ?_
        simp only [Act.put, List.setIfInBounds_toArray, List.set_cons_zero, List.set_cons_succ]
        refine heldTake (i := 10) 42 (v := .int .i64 (1 + ((j : Int) * 7) % 20)) rfl rfl (by kernel_rfl) (by kernel_rfl) (by kernel_rfl) (fun _ _ _ h => h) (yieldUp1 (by rfl) (.tmp 41) rfl (((j : Int) * 7) % 20) rfl (by omega) (by omega)) hS0 ?_
        simp only [Act.put, List.setIfInBounds_toArray, List.set_cons_zero, List.set_cons_succ]
        refine heldTake (i := 11) 43 (v := .slice (some ⟨b, off, none⟩) N cp) rfl rfl (by kernel_rfl) (by kernel_rfl) (by kernel_rfl) (fun _ _ _ h => h) (Or.inl ⟨by rfl, fun _ _ => by kernel_rfl⟩) hS0 ?_
        simp only [Act.put, List.setIfInBounds_toArray, List.set_cons_zero, List.set_cons_succ]
        refine heldTake (i := 12) 44 (v := .int .i64 (j : Int)) rfl rfl (by kernel_rfl) (by kernel_rfl) (by kernel_rfl) (fun _ _ _ h => h) (Or.inl ⟨by rfl, fun _ _ => by kernel_rfl⟩) hS0 ?_
        simp only [Act.put, List.setIfInBounds_toArray, List.set_cons_zero, List.set_cons_succ]
        refine heldTake (i := 13) 45 (v := .pointer (some ⟨b, off + 5 * j, none⟩)) rfl rfl (by kernel_rfl) (by kernel_rfl) (by kernel_rfl) (fun _ _ _ h => h) (yieldIndexP (by rfl) (.tmp 43) (.tmp 44) rfl b off N cp j hjN rfl rfl) hS0 ?_
        simp only [Act.put, List.setIfInBounds_toArray, List.set_cons_zero, List.set_cons_succ]
        refine heldTake (i := 14) 46 (v := .pointer (some ⟨b, off + 5 * j + 1, none⟩)) rfl rfl (by kernel_rfl) (by kernel_rfl) (by kernel_rfl) (fun _ _ _ h => h) (Or.inl ⟨by rfl, fun _ _ => by kernel_rfl⟩) hS0 ?_
        simp only [Act.put, List.setIfInBounds_toArray, List.set_cons_zero, List.set_cons_succ]
        refine heldTake (i := 15) 47 (v := .int .i64 pc) rfl rfl (by kernel_rfl) (by kernel_rfl) (by kernel_rfl) (fun _ _ _ h => h) (yieldCell (by rfl) 3 (.tmp 46) rfl _ Tryd.underlying3 rfl ⟨b, off + 5 * j + 1, none⟩ rfl (.int .i64 pc) (fun w' hw' => (hw'.cell (p := ⟨b, off + 5 * j + 1, none⟩) ltb).trans (hr 1 _ rfl))) hS0 ?_
        simp only [Act.put, List.setIfInBounds_toArray, List.set_cons_zero, List.set_cons_succ]
        refine heldTake (i := 18) 50 (v := .slice (some ⟨b, off, none⟩) N cp) rfl rfl (by kernel_rfl) (by kernel_rfl) (by kernel_rfl) (fun _ _ _ h => h) (Or.inl ⟨by rfl, fun _ _ => by kernel_rfl⟩) hS0 ?_
        simp only [Act.put, List.setIfInBounds_toArray, List.set_cons_zero, List.set_cons_succ]
        refine heldTake (i := 19) 51 (v := .int .i64 (j : Int)) rfl rfl (by kernel_rfl) (by kernel_rfl) (by kernel_rfl) (fun _ _ _ h => h) (Or.inl ⟨by rfl, fun _ _ => by kernel_rfl⟩) hS0 ?_
        simp only [Act.put, List.setIfInBounds_toArray, List.set_cons_zero, List.set_cons_succ]
        refine heldTake (i := 20) 52 (v := .pointer (some ⟨b, off + 5 * j, none⟩)) rfl rfl (by kernel_rfl) (by kernel_rfl) (by kernel_rfl) (fun _ _ _ h => h) (yieldIndexP (by rfl) (.tmp 50) (.tmp 51) rfl b off N cp j hjN rfl rfl) hS0 ?_
        simp only [Act.put, List.setIfInBounds_toArray, List.set_cons_zero, List.set_cons_succ]
        refine heldTake (i := 21) 53 (v := .pointer (some ⟨b, off + 5 * j + 4, none⟩)) rfl rfl (by kernel_rfl) (by kernel_rfl) (by kernel_rfl) (fun _ _ _ h => h) (Or.inl ⟨by rfl, fun _ _ => by kernel_rfl⟩) hS0 ?_
        simp only [Act.put, List.setIfInBounds_toArray, List.set_cons_zero, List.set_cons_succ]
        refine heldTake (i := 22) 54 (v := .int .i64 pv) rfl rfl (by kernel_rfl) (by kernel_rfl) (by kernel_rfl) (fun _ _ _ h => h) (yieldCell (by rfl) 3 (.tmp 53) rfl _ Tryd.underlying3 rfl ⟨b, off + 5 * j + 4, none⟩ rfl (.int .i64 pv) (fun w' hw' => (hw'.cell (p := ⟨b, off + 5 * j + 4, none⟩) ltb).trans (hr 4 _ rfl))) hS0 ?_
        simp only [Act.put, List.setIfInBounds_toArray, List.set_cons_zero, List.set_cons_succ]
        refine heldOne (i := 6) (by kernel_rfl) (opCall (i := 6) (d := 38) (f := 10) (args := #[.int .i64 pn, .int .i64 3]) rfl (by kernel_rfl) rfl (by kernel_rfl) ((ipn.picked 3 _ (by omega) (by omega)).mono ?_))
        rintro e' w' ⟨rfl, rfl⟩
        refine ⟨_, rfl, ed, ?_⟩
        simp only [Act.put, List.setIfInBounds_toArray, List.set_cons_zero, List.set_cons_succ]
        refine heldOne (i := 16) (by kernel_rfl) (opCall (i := 16) (d := 48) (f := 10) (args := #[.int .i64 pc, .int .i64 5]) rfl (by kernel_rfl) rfl (by kernel_rfl) ((ipc.picked 5 _ (by omega) (by omega)).mono ?_))
        rintro e' w' ⟨rfl, rfl⟩
        refine ⟨_, rfl, ed, ?_⟩
        simp only [Act.put, List.setIfInBounds_toArray, List.set_cons_zero, List.set_cons_succ]
        refine heldTake (i := 17) 49 (v := .agg #[.int .i64 (1 + ((j : Int) * 7) % 20), .int .i64 (pick pc 5)]) rfl rfl (by kernel_rfl) (by kernel_rfl) (by kernel_rfl) (fun _ _ _ h => h) (Or.inl ⟨by rfl, fun _ _ => by kernel_rfl⟩) hS0 ?_
        simp only [Act.put, List.setIfInBounds_toArray, List.set_cons_zero, List.set_cons_succ]
        refine heldOne (i := 23) (by kernel_rfl) (opCall (i := 23) (d := 55) (f := 10) (args := #[.int .i64 pv, .int .i64 50]) rfl (by kernel_rfl) rfl (by kernel_rfl) ((ipv.picked 50 _ (by omega) (by omega)).mono ?_))
        rintro e' w' ⟨rfl, rfl⟩
        refine ⟨_, rfl, ed, ?_⟩
        simp only [Act.put, List.setIfInBounds_toArray, List.set_cons_zero, List.set_cons_succ]
        refine heldTake (i := 24) 56 (v := .agg #[.int .i64 2, .int .i64 0, .int .i64 (pick pv 50), .int .i64 0, .int .i64 0]) rfl rfl (by kernel_rfl) (by kernel_rfl) (by kernel_rfl) (fun _ _ _ h => h) (Or.inl ⟨by rfl, fun _ _ => by kernel_rfl⟩) hS0 ?_
        simp only [Act.put, List.setIfInBounds_toArray, List.set_cons_zero, List.set_cons_succ]
        refine heldTake (i := 25) 57 (v := .agg (vtA ⟨pick pn 3, ⟨1 + ((j : Int) * 7) % 20, pick pc 5⟩, ⟨2, 0, pick pv 50, 0, 0⟩⟩)) rfl rfl (by kernel_rfl) (by kernel_rfl) (by kernel_rfl) (fun _ _ _ h => h) (Or.inl ⟨by rfl, fun _ _ => by kernel_rfl⟩) hS0 ?_
        simp only [Act.put, List.setIfInBounds_toArray, List.set_cons_zero, List.set_cons_succ]
        have eG : Below w.heap.size w (wr.drew.alloc (.cells (vtA ⟨pick pn 3, ⟨1 + ((j : Int) * 7) % 20, pick pc 5⟩, ⟨2, 0, pick pv 50, 0, 0⟩⟩) 39)) := ed.alloc ed.size _
        have hzz : wr.drew.heap.size = wr.heap.size := rfl
        refine heldOne (i := 26) (by kernel_rfl) (opBuildV (i := 26) (d := 58) rfl (by kernel_rfl) rfl (.tmp 57) rfl ⟨pick pn 3, ⟨1 + ((j : Int) * 7) % 20, pick pc 5⟩, ⟨2, 0, pick pv 50, 0, 0⟩⟩ (by kernel_rfl) ⟨eG, ?_⟩)
        simp only [Act.put, List.setIfInBounds_toArray, List.set_cons_zero, List.set_cons_succ]
        refine heldOne (i := 27) (by kernel_rfl) (opAppendV (i := 27) (d := 59) rfl (by kernel_rfl) rfl (.tmp 32) (.tmp 58) 25 rfl w.heap.size 39 zVt Tryd.underlying25 infoVt rfl u5 (.slice (some ⟨wr.drew.heap.size, 0, none⟩) 1 1) (by kernel_rfl) (by kernel_rfl) VS [⟨pick pn 3, ⟨1 + ((j : Int) * 7) % 20, pick pc 5⟩, ⟨2, 0, pick pv 50, 0, 0⟩⟩] ((show wr.drew.ownsRow w.heap.size 39 8 u5 VS.length (vtL VS) from HO.out).alloc _) (Sv.one _ _ _ rfl) (by simp; omega) (by simp; omega) ?_)
        intro v4 w4 o4 g4
        have e4 : Below w.heap.size w w4 := eG.grown g4 (by simp; omega) (fun k hk => (hlt k hk).1)
        refine ⟨e4, ?_⟩
        simp only [Act.put, List.setIfInBounds_toArray, List.set_cons_zero, List.set_cons_succ]
        refine heldTake (i := 28) 5 (v := v4) rfl rfl (by kernel_rfl) (by kernel_rfl) (by kernel_rfl) (fun _ _ _ h => h) (Or.inl ⟨by rfl, fun _ _ => by kernel_rfl⟩) e4 ?_
        simp only [Act.put, List.setIfInBounds_toArray, List.set_cons_zero, List.set_cons_succ]
        exact wpAnyH_done (by kernel_rfl) (HK2.out v4 _ ⟨o4, e4⟩) _
      intro v4 W2 hW2
      obtain ⟨o4, e4⟩ := hW2
      have HO4 : Hid (W2.ownsRow w.heap.size 39 8 v4 (VS ++ [(⟨pick pn 3, ⟨1 + ((j : Int) * 7) % 20, pick pc 5⟩, ⟨2, 0, pick pv 50, 0, 0⟩⟩ : Vt)]).length (vtL (VS ++ [(⟨pick pn 3, ⟨1 + ((j : Int) * 7) % 20, pick pc 5⟩, ⟨2, 0, pick pv 50, 0, 0⟩⟩ : Vt)]))) := o4
      clear o4 HO hlt
      have hl2 : Hid ((VS ++ [(⟨pick pn 3, ⟨1 + ((j : Int) * 7) % 20, pick pc 5⟩, ⟨2, 0, pick pv 50, 0, 0⟩⟩ : Vt)]).length = j + 1) := by unfold Hid; rw [List.length_append, hVS]; rfl
      generalize VS ++ [(⟨pick pn 3, ⟨1 + ((j : Int) * 7) % 20, pick pc 5⟩, ⟨2, 0, pick pv 50, 0, 0⟩⟩ : Vt)] = VS2 at HO4 HD2 hl2
      go_wp2
      go_roundw
      case rel => exact ⟨j + 1, VS2, by omega, by omega, hl2.out, by go_num, HD2.out, HO4.out, e4⟩
      case measure => simp [intOf]; omega
    · have HVl : Hid (VS.length ≤ 20) := by unfold Hid; omega
      obtain ⟨u5v, hu5⟩ : ∃ v, v = u5 := ⟨_, rfl⟩
      obtain ⟨av, cv, hav⟩ := ownsV_shape HO.out
      obtain ⟨n, hn⟩ : ∃ n, VS.length = n := ⟨_, rfl⟩
      have HNn : Hid (VS.length = n) := hn
      have hn20 : n ≤ 20 := by omega
      have sV0 : Sv wr u5 VS := Sv.ofOwns HO.out (by omega)
      rw [hn] at hav
      have hgo : ¬ ((j : Int) < (N : Int)) ∨ ((j : Int) < (N : Int) ∧ ¬ ((j : Int) < 20)) := by omega
      subst hav
      clear hu5 u5v hlt HO hVS hn
      obtain ⟨W, rfl⟩ : ∃ W, W = wr := ⟨_, rfl⟩
      have tW := ht.below hbel
      clear hjj
      have key : ∀ dummy : Unit, True := fun _ => trivial
      rcases hgo with hgo | ⟨hgo, hgo2⟩
      · go_wp2_with fail
        go_loopw [7, 8, 9] (fun bv lv iv ws => ∃ (k : Nat) (ys : List Value), k ≤ n ∧ iv = .int .i64 ((n : Int) - 1 - (k : Int)) ∧ ws.ownsRow W.heap.size 39 8 bv (VS.drop (n - k)).reverse.length (vtL (VS.drop (n - k)).reverse) ∧ ws.ownsRow W.heap.size 25 1 lv k ys ∧ Rs ws ys (VS.drop (n - k)).reverse ∧ Apart ys bv ∧ Below W.heap.size W ws) (fun _ _ iv _ => (intOf iv + 1).toNat)
        case atStart => exact ⟨0, [], by omega, by simp, by rw [show VS.drop (n - 0) = [] from List.drop_eq_nil_of_le (by have := HNn.out; omega)]; exact World.ownsRow_nil _ _ _ _, World.ownsRow_nil _ _ _ _, by rw [show VS.drop (n - 0) = [] from List.drop_eq_nil_of_le (by have := HNn.out; omega)]; exact ⟨rfl, fun i y u h1 => by simp at h1⟩, fun y hy => (List.not_mem_nil hy).elim, Below.refl _ _⟩
        case round =>
          obtain ⟨k, ys, hkn, rfl, hob, hol, hrs, hap, hb2⟩ := hrel
          have hlb := hob.lt
          have hll := hol.lt
          have HOB : Hid (wr.ownsRow W.heap.size 39 8 u7 (VS.drop (n - k)).reverse.length (vtL (VS.drop (n - k)).reverse)) := hob
          have HOL : Hid (wr.ownsRow W.heap.size 25 1 u8 k ys) := hol
          have HRS : Hid (Rs wr ys (VS.drop (n - k)).reverse) := hrs
          have HAP : Hid (Apart ys u7) := hap
          have z2 := hb2.size
          have hLk : (VS.drop (n - k)).reverse.length = k := by rw [List.length_reverse, List.length_drop]; have := HNn.out; omega
          clear hob hol hrs hap
          by_cases hk : k < n
          · obtain ⟨m, hm⟩ : ∃ m : Nat, m = n - 1 - k := ⟨_, rfl⟩
            have hmi : (n : Int) - 1 - (k : Int) = (m : Int) := by omega
            have hmn : m < n := by omega
            obtain ⟨v, hv⟩ : ∃ v, VS[m]? = some v := ⟨_, List.getElem?_eq_getElem (by have := HNn.out; omega)⟩
            have HE : Hid ((VS.drop (n - (k + 1))).reverse = (VS.drop (n - k)).reverse ++ [v]) := by
              unfold Hid
              obtain ⟨hm', e⟩ := List.getElem?_eq_some_iff.1 hv
              rw [show n - (k + 1) = m by omega, show n - k = m + 1 by omega, List.drop_eq_getElem_cons hm', e, List.reverse_cons]
            obtain ⟨bx, ox, hav2, ltx, rx⟩ := (sV0.below hb2).spot m v hv
            have hgx : ∀ ws', Below W.heap.size W ws' → ws'.rangeAt bx (ox + 8 * m) (vtC v) := fun ws' hb => by
              obtain ⟨bx', ox', e', _, rx'⟩ := (sV0.below hb).spot m v hv
              rw [hav2] at e'
              simp only [Option.some.injEq, Addr.mk.injEq] at e'
              rw [e'.1, e'.2.1]
              exact rx'
            have HGX : Hid (∀ ws', Below W.heap.size W ws' → ws'.rangeAt bx (ox + 8 * m) (vtC v)) := hgx
            subst hav2
            have ix := runIndexV bx ox n cv m hmn
            have hsz := sizeVt v
            generalize (VS.drop (n - k)).reverse = BK at HOB HRS HE hLk
            have HLk : Hid (BK.length = k) := hLk
            have hBK : BK.length ≤ 20 := by omega
            clear hLk
            rw [hmi]
            have HMm : Hid (m = n - 1 - k) := hm
            clear hv hgx hmi hm
            obtain ⟨vs, ⟨vr, vn⟩, ⟨vk, vc, vq, vm, vx⟩⟩ := v
            simp only [vtC] at rx hsz
            have hmg : (0 : Int) ≤ (m : Int) := by omega
            go_wp2_with ((with_reducible (refine pxLook ?_)); first | (refine wpList_load_mid rfl 39 _ rfl bx (ox + 8 * m) rfl [.int .i64 vs, .int .i64 vr, .int .i64 vn, .int .i64 vk, .int .i64 vc, .int .i64 vq, .int .i64 vm, .int .i64 vx] _ rx Tryd.underlying39 rfl hsz ?_) | (at_builtin; refine wpList_append_vt _ rfl _ _ 25 rfl W.heap.size 39 zVt Tryd.underlying25 infoVt rfl _ _ rfl rfl BK [(⟨vs, ⟨vr, vn⟩, ⟨vk, vc, vq, vm, vx⟩⟩ : Vt)] (HOB.out.alloc _) (Sv.one _ (⟨vs, ⟨vr, vn⟩, ⟨vk, vc, vq, vm, vx⟩⟩ : Vt) _ rfl) (by simp; omega) (by simp; omega) ?_))
            intro v4 w4 o4 g4
            have e4 : Below W.heap.size W w4 := (hb2.alloc (by omega) _).grown g4 (by simp; omega) (fun q hq => (hlb q hq).1)
            have HO4 : Hid (w4.ownsRow W.heap.size 39 8 v4 (BK ++ [(⟨vs, ⟨vr, vn⟩, ⟨vk, vc, vq, vm, vx⟩⟩ : Vt)]).length (vtL (BK ++ [(⟨vs, ⟨vr, vn⟩, ⟨vk, vc, vq, vm, vx⟩⟩ : Vt)]))) := by unfold Hid; rw [List.length_append]; exact o4
            have HRS4 : Hid (Rs w4 ys BK) := by
              refine HRS.out.keep (fun y hy g hg hglt => ?_)
              rw [g4.block g (by simp; omega) (fun e => HAP.out y hy g hg e.symm)]
              exact heap_alloc_old _ _ hglt
            have HAP4 : Hid (Apart ys v4) := by
              rcases Nat.eq_zero_or_pos k with h0 | h0
              · have : ys = [] := List.eq_nil_of_length_eq_zero (by have := HOL.out.1; omega)
                rw [this]
                exact fun y hy => (List.not_mem_nil hy).elim
              · exact HRS4.out.longer HO4.out (by rw [List.length_append, HLk.out]; simp; omega)
            have HOL4 : Hid (w4.ownsRow W.heap.size 25 1 u8 k ys) := ownsTy HOL.out HOB.out (by decide) (by simp) (fun g hg => heap_alloc_old _ _ hg) g4
            have hl4 := HO4.out.lt
            have hll4 := HOL4.out.lt
            have z4 := e4.size
            have rx4 := HGX.out w4 e4
            simp only [vtC] at rx4
            clear o4 g4 HRS HAP HOL HOB rx hlb hll
            have bG : Below w4.heap.size w4 (w4.alloc (.cells (vtA (⟨vs, ⟨vr, vn⟩, ⟨vk, vc, vq, vm, vx⟩⟩ : Vt)) 39)) := (Below.refl _ _).alloc (Nat.le_refl _) _
            have rG := heap_alloc_new w4 (.cells (vtA (⟨vs, ⟨vr, vn⟩, ⟨vk, vc, vq, vm, vx⟩⟩ : Vt)) 39)
            have hbv := runBuildV (⟨vs, ⟨vr, vn⟩, ⟨vk, vc, vq, vm, vx⟩⟩ : Vt) w4
            simp only [vtA, vtC] at bG rG hbv
            generalize hWG : w4.alloc (.cells [.int .i64 vs, .int .i64 vr, .int .i64 vn, .int .i64 vk, .int .i64 vc, .int .i64 vq, .int .i64 vm, .int .i64 vx].toArray 39) = WG at bG rG hbv
            have bS : Below WG.heap.size WG (WG.alloc (.cells #[.slice (some ⟨w4.heap.size, 0, none⟩) 1 1] 25)) := (Below.refl _ _).alloc (Nat.le_refl _) _
            have rS := heap_alloc_new WG (.cells #[.slice (some ⟨w4.heap.size, 0, none⟩) 1 1] 25)
            have hbs := runBuildS1 WG (some ⟨w4.heap.size, 0, none⟩) 1 1
            generalize hWS : WG.alloc (.cells #[.slice (some ⟨w4.heap.size, 0, none⟩) 1 1] 25) = WS at bS rS hbs
            have zG := bG.size
            have zS := bS.size
            have lgG : w4.heap.size < WG.heap.size := (Array.getElem?_eq_some_iff.1 rG).1
            have HOLS : Hid (WS.ownsRow W.heap.size 25 1 u8 k ys) := ownsV_keep (ownsV_keep HOL4.out (fun q hq => bG.block q (hll4 q hq).2)) (fun q hq => bS.block q (by have := (hll4 q hq).2; omega))
            have HOS : Hid (WS.ownsRow W.heap.size 39 8 v4 (BK ++ [(⟨vs, ⟨vr, vn⟩, ⟨vk, vc, vq, vm, vx⟩⟩ : Vt)]).length (vtL (BK ++ [(⟨vs, ⟨vr, vn⟩, ⟨vk, vc, vq, vm, vx⟩⟩ : Vt)]))) := ownsV_keep (ownsV_keep HO4.out (fun q hq => bG.block q (hl4 q hq).2)) (fun q hq => bS.block q (by have := (hl4 q hq).2; omega))
            have HRSS : Hid (Rs WS (ys ++ [.slice (some ⟨w4.heap.size, 0, none⟩) 1 1]) (BK ++ [(⟨vs, ⟨vr, vn⟩, ⟨vk, vc, vq, vm, vx⟩⟩ : Vt)])) := by
              refine Rs.snoc ?_ ((bS.block w4.heap.size lgG).trans rG)
              exact (HRS4.out.keep (fun y hy g hg hglt => bG.block g hglt)).keep (fun y hy g hg hglt => bS.block g hglt)
            have HAPS : Hid (Apart (ys ++ [.slice (some ⟨w4.heap.size, 0, none⟩) 1 1]) v4) := by
              intro y hy g hg e
              rcases List.mem_append.1 hy with hy | hy
              · exact HAP4.out y hy g hg e
              · obtain rfl : y = .slice (some ⟨w4.heap.size, 0, none⟩) 1 1 := by simpa using hy
                have : w4.heap.size = g := by simpa [Value.ownBlock] using hg
                have := (hl4 g e).2
                omega
            have eS : Below W.heap.size W WS := (e4.trans (bG.mono (by omega))).trans (bS.mono (by omega))
            have hllS := HOLS.out.lt
            clear HRS4 HAP4 HOL4 HO4
            go_wp2_with ((with_reducible (refine pxLook ?_)); first | (refine wpList_load_mid rfl 39 _ rfl bx (ox + 8 * m) rfl [.int .i64 vs, .int .i64 vr, .int .i64 vn, .int .i64 vk, .int .i64 vc, .int .i64 vq, .int .i64 vm, .int .i64 vx] _ rx4 Tryd.underlying39 rfl hsz ?_) | (at_builtin; refine wpList_append_one _ rfl _ _ 45 rfl W.heap.size 25 1 24 _ Tryd.underlying45 infoSv rfl (by omega) u8 k ys WG.heap.size [.slice (some ⟨w4.heap.size, 0, none⟩) 1 1] rfl rfl HOLS.out rfl (one_range rS) (by intro u hu; obtain rfl : u = .slice (some ⟨w4.heap.size, 0, none⟩) 1 1 := (by simpa using hu); rfl) (by omega) (by omega) (by omega) ?_))
            intro v6 w6 o6 g6
            have e6 : Below W.heap.size W w6 := eS.grown g6 (by omega) (fun q hq => (hllS q hq).1)
            have HO6 : Hid (w6.ownsRow W.heap.size 39 8 v4 (BK ++ [(⟨vs, ⟨vr, vn⟩, ⟨vk, vc, vq, vm, vx⟩⟩ : Vt)]).length (vtL (BK ++ [(⟨vs, ⟨vr, vn⟩, ⟨vk, vc, vq, vm, vx⟩⟩ : Vt)]))) := ownsTy HOS.out HOLS.out (by decide) (Nat.le_refl _) (fun _ _ => rfl) g6
            have HRS6 : Hid (Rs w6 (ys ++ [.slice (some ⟨w4.heap.size, 0, none⟩) 1 1]) (BK ++ [(⟨vs, ⟨vr, vn⟩, ⟨vk, vc, vq, vm, vx⟩⟩ : Vt)])) := by
              refine HRSS.out.keep (fun y hy g hg hglt => g6.block g hglt (fun e => ?_))
              obtain ⟨u, hu⟩ := HRSS.out.block hy hg
              rcases HOLS.out.2 with ⟨h1, _⟩ | ⟨q, cap, cur, h1, _, h2, _⟩
              · rw [h1] at e; cases e
              · rw [h1] at e
                have : q = g := by simpa [Value.ownBlock] using e.symm
                rw [this, hu] at h2
                simp only [Option.some.injEq, Obj.cells.injEq] at h2
                exact absurd h2.2.1 (by decide)
            have HO7 : Hid (w6.ownsRow W.heap.size 25 1 v6 (k + 1) (ys ++ [.slice (some ⟨w4.heap.size, 0, none⟩) 1 1])) := o6
            clear o6 g6 HOS HOLS HRSS hWG hWS hbs hbv rS rG
            go_wp2
            go_roundw
            case rel => exact ⟨k + 1, _, by omega, (show (Value.int .i64 ((m : Int) - 1)) = _ by rw [show (m : Int) - 1 = (n : Int) - 1 - ((k + 1 : Nat) : Int) by have := HMm.out; omega]), by rw [HE.out]; exact HO6.out, HO7.out, by rw [HE.out]; exact HRS6.out, HAPS.out, e6⟩
            case measure => first | (simp [intOf]; done) | (simp [intOf]; omega)
          · obtain rfl : k = n := by omega
            have HBK : Hid ((VS.drop (k - k)).reverse = VS.reverse) := by unfold Hid; rw [Nat.sub_self, List.drop_zero]
            rw [HBK.out] at HOB HRS hLk
            have dr := hbel.trans (hb2.mono hbel.size)
            have tr := tW.below hb2
            have sV := sV0.below hb2
            have sB : Sv wr u7 VS.reverse := Sv.ofOwns HOB.out (by omega)
            have sLs : Svv wr u8 (VS.reverse.map fun u => [u]) := Svv.ofRv (by rw [List.length_map, hLk]; exact HOL.out) HRS.out.rv (by rw [List.length_map]; omega)
            obtain ⟨ab, cb, hab⟩ := sB.shape
            rw [hLk] at hab
            subst hab
            have hs39 : ∀ t, 0 ≤ t ∧ t < 3 → 0 ≤ t ∧ t ≤ (39 : Int) := fun t ht => by omega
            have HPA : Hid (∀ t, 0 ≤ t ∧ t < 3 → pickE [VS] t = 0 ∧ pickF [VS] t = VS.any (fun u => decide (u.slot = t))) := fun t ht => ⟨(HD.out.pick HVl.out (hs39 t ht) [VS] (fun u => by simp)).1, (HD.out.pick HVl.out (hs39 t ht) [VS] (fun u => by simp)).2.2⟩
            have HPB : Hid (∀ t, 0 ≤ t ∧ t < 3 → pickE [VS.reverse] t = 0 ∧ pickC [VS.reverse] t = pickC [VS] t ∧ pickF [VS.reverse] t = VS.any (fun u => decide (u.slot = t))) := fun t ht => HD.out.pick HVl.out (hs39 t ht) [VS.reverse] (fun u => by simp)
            have HPC : Hid (∀ t, 0 ≤ t ∧ t < 3 → pickE (VS.reverse.map fun u => [u]) t = 0 ∧ pickC (VS.reverse.map fun u => [u]) t = pickC [VS] t ∧ pickF (VS.reverse.map fun u => [u]) t = VS.any (fun u => decide (u.slot = t))) := fun t ht => HD.out.pick HVl.out (hs39 t ht) _ (fun u => by rw [flat1]; simp)
            have hneg : ¬ (0 : Int) ≤ (k : Int) - 1 - (k : Int) := by omega
            clear HOB HOL HRS HAP hlb hll hs39
            go_wp2_with fail
            refine (isl.picked 3 _ (by omega) (by omega)).mono ?_
            rintro e wq ⟨rfl, hwq⟩
            replace hwq := hwq.symm
            subst hwq
            generalize hs : pick sl 3 = s at p3 ⊢
            clear hs
            have PA := HPA.out s p3
            have PB := HPB.out s p3
            have PC := HPC.out s p3
            clear HPA HPB HPC
            have HPA : Hid (_ ∧ _) := PA
            have HPB : Hid (_ ∧ _) := PB
            have HPC : Hid (_ ∧ _) := PC
            clear PA PB PC
            obtain ⟨C1, hC1⟩ : ∃ C1, pickC [VS] s = C1 := ⟨_, rfl⟩
            have HC1 : Hid (pickC [VS] s = C1) := hC1
            clear hC1
            obtain ⟨F1, hF1⟩ : ∃ F1, VS.any (fun u => decide (u.slot = s)) = F1 := ⟨_, rfl⟩
            have HF1 : Hid (VS.any (fun u => decide (u.slot = s)) = F1) := hF1
            clear hF1
            obtain ⟨ck, cc, cs, cn, cw⟩ := C1
            have bS1 : Below wr.heap.size wr (wr.alloc (.cells #[.slice av k cv] 25)) := (Below.refl _ _).alloc (Nat.le_refl _) _
            have rS1 := heap_alloc_new wr (.cells #[.slice av k cv] 25)
            have hbs1 := runBuildS1 wr av k cv
            generalize hWS1 : wr.alloc (.cells #[.slice av k cv] 25) = WS1 at bS1 rS1 hbs1
            go_wp2_with fail
            clear hWS1 hbs1
            have d1 := dr.trans (bS1.mono dr.size)
            have tt1 := tr.below bS1
            have sv1_0 := sV.below bS1
            have sv1_1 := sB.below bS1
            have sv1_2 := sLs.below bS1
            clear bS1
            have svv1 := Svv.single rS1 sv1_0
            clear rS1
            refine (pick_any (.slice (some ⟨wr.heap.size, 0, none⟩) 1 1) [VS] s WS1 svv1 tt1).mono ?_
            rintro e wp1 ⟨rfl, bp1⟩
            rw [HPA.out.1, HPA.out.2, HC1.out, HF1.out]
            simp only [cmC, cmA]
            have d2 := d1.trans (bp1.mono d1.size)
            have tt2 := tt1.below bp1
            have sv2_0 := sv1_0.below bp1
            have sv2_1 := sv1_1.below bp1
            have sv2_2 := sv1_2.below bp1
            clear bp1
            have bN3 : Below wp1.heap.size wp1 (wp1.alloc (.cells #[.int .i64 0, .int .i64 0, .int .i64 0, .int .i64 0, .int .i64 0] 37)) := (Below.refl _ _).alloc (Nat.le_refl _) _
            have rN3 := heap_alloc_new wp1 (.cells #[.int .i64 0, .int .i64 0, .int .i64 0, .int .i64 0, .int .i64 0] 37)
            have on3 : (#[.int .i64 ck, .int .i64 cc, .int .i64 cs, .int .i64 cn, .int .i64 cw] : Array Value).all (·.oneCell') = true := by simp [Value.oneCell']
            generalize hN3 : wp1.alloc (.cells #[.int .i64 0, .int .i64 0, .int .i64 0, .int .i64 0, .int .i64 0] 37) = N3 at bN3 rN3
            go_upto_region 15 with ((with_reducible (refine pxLook ?_)); (refine wpList_store_row rfl 37 (.tmp 11) (.tmp 89) rfl wp1.heap.size #[.int .i64 ck, .int .i64 cc, .int .i64 cs, .int .i64 cn, .int .i64 cw] rfl rfl 37 _ rN3 cm5 rfl on3 ?_))
            clear hN3
            have qN3 := setRow_heap N3 wp1.heap.size _ (#[.int .i64 ck, .int .i64 cc, .int .i64 cs, .int .i64 cn, .int .i64 cw]) 37 _ rN3
            replace bN3 := oBelow_rowP bN3 (Nat.le_refl _) (#[.int .i64 ck, .int .i64 cc, .int .i64 cs, .int .i64 cn, .int .i64 cw])
            generalize N3.setRow wp1.heap.size (#[.int .i64 ck, .int .i64 cc, .int .i64 cs, .int .i64 cn, .int .i64 cw]) = W3 at qN3 bN3 ⊢
            have lN3 : wp1.heap.size < W3.heap.size := (Array.getElem?_eq_some_iff.1 qN3).1
            clear rN3
            have d3 := d2.trans (bN3.mono d2.size)
            have tt3 := tt2.below bN3
            have sv3_0 := sv2_0.below bN3
            have sv3_1 := sv2_1.below bN3
            have sv3_2 := sv2_2.below bN3
            obtain ⟨gX, hgX⟩ : ∃ g, g = wp1.heap.size := ⟨_, rfl⟩
            rw [← hgX] at qN3 lN3 ⊢
            clear hgX bN3
            have bS2 : Below W3.heap.size W3 (W3.alloc (.cells #[.slice ab k cb] 25)) := (Below.refl _ _).alloc (Nat.le_refl _) _
            have rS2 := heap_alloc_new W3 (.cells #[.slice ab k cb] 25)
            have hbs2 := runBuildS1 W3 ab k cb
            generalize hWS2 : W3.alloc (.cells #[.slice ab k cb] 25) = WS2 at bS2 rS2 hbs2
            go_wp2_with fail
            clear hWS2 hbs2
            have d4 := d3.trans (bS2.mono d3.size)
            have tt4 := tt3.below bS2
            have rw4_0 := (bS2.block _ lN3).trans qN3
            have lw4_0 := Nat.lt_of_lt_of_le lN3 bS2.size
            have sv4_0 := sv3_0.below bS2
            have sv4_1 := sv3_1.below bS2
            have sv4_2 := sv3_2.below bS2
            clear lN3 qN3
            clear bS2
            have svv2 := Svv.single rS2 sv4_1
            clear rS2
            refine (pick_any (.slice (some ⟨W3.heap.size, 0, none⟩) 1 1) [VS.reverse] s WS2 svv2 tt4).mono ?_
            rintro e wp2 ⟨rfl, bp2⟩
            rw [HPB.out.1, HPB.out.2.1, HPB.out.2.2, HC1.out, HF1.out]
            simp only [cmC, cmA]
            have d5 := d4.trans (bp2.mono d4.size)
            have tt5 := tt4.below bp2
            have rw5_0 := (bp2.block _ lw4_0).trans rw4_0
            have lw5_0 := Nat.lt_of_lt_of_le lw4_0 bp2.size
            have sv5_0 := sv4_0.below bp2
            have sv5_1 := sv4_1.below bp2
            have sv5_2 := sv4_2.below bp2
            clear lw4_0 rw4_0
            clear bp2
            have bN6 : Below wp2.heap.size wp2 (wp2.alloc (.cells #[.int .i64 0, .int .i64 0, .int .i64 0, .int .i64 0, .int .i64 0] 37)) := (Below.refl _ _).alloc (Nat.le_refl _) _
            have rN6 := heap_alloc_new wp2 (.cells #[.int .i64 0, .int .i64 0, .int .i64 0, .int .i64 0, .int .i64 0] 37)
            have on6 : (#[.int .i64 ck, .int .i64 cc, .int .i64 cs, .int .i64 cn, .int .i64 cw] : Array Value).all (·.oneCell') = true := by simp [Value.oneCell']
            generalize hN6 : wp2.alloc (.cells #[.int .i64 0, .int .i64 0, .int .i64 0, .int .i64 0, .int .i64 0] 37) = N6 at bN6 rN6
            go_upto_region 16 with ((with_reducible (refine pxLook ?_)); (refine wpList_store_row rfl 37 (.tmp 14) (.tmp 97) rfl wp2.heap.size #[.int .i64 ck, .int .i64 cc, .int .i64 cs, .int .i64 cn, .int .i64 cw] rfl rfl 37 _ rN6 cm5 rfl on6 ?_))
            clear hN6
            have qN6 := setRow_heap N6 wp2.heap.size _ (#[.int .i64 ck, .int .i64 cc, .int .i64 cs, .int .i64 cn, .int .i64 cw]) 37 _ rN6
            replace bN6 := oBelow_rowP bN6 (Nat.le_refl _) (#[.int .i64 ck, .int .i64 cc, .int .i64 cs, .int .i64 cn, .int .i64 cw])
            generalize N6.setRow wp2.heap.size (#[.int .i64 ck, .int .i64 cc, .int .i64 cs, .int .i64 cn, .int .i64 cw]) = W6 at qN6 bN6 ⊢
            have lN6 : wp2.heap.size < W6.heap.size := (Array.getElem?_eq_some_iff.1 qN6).1
            clear rN6
            have d6 := d5.trans (bN6.mono d5.size)
            have tt6 := tt5.below bN6
            have rw6_0 := (bN6.block _ lw5_0).trans rw5_0
            have lw6_0 := Nat.lt_of_lt_of_le lw5_0 bN6.size
            have sv6_0 := sv5_0.below bN6
            have sv6_1 := sv5_1.below bN6
            have sv6_2 := sv5_2.below bN6
            clear lw5_0 rw5_0
            obtain ⟨gY, hgY⟩ : ∃ g, g = wp2.heap.size := ⟨_, rfl⟩
            rw [← hgY] at qN6 lN6 ⊢
            clear hgY bN6
            go_wp2_with fail
            refine (pick_any u8 (VS.reverse.map fun u => [u]) s W6 sv6_2 tt6).mono ?_
            rintro e wp3 ⟨rfl, bp3⟩
            rw [HPC.out.1, HPC.out.2.1, HPC.out.2.2, HC1.out, HF1.out]
            simp only [cmC, cmA]
            have d7 := d6.trans (bp3.mono d6.size)
            have tt7 := tt6.below bp3
            have rw7_0 := (bp3.block _ lw6_0).trans rw6_0
            have lw7_0 := Nat.lt_of_lt_of_le lw6_0 bp3.size
            have rw7_1 := (bp3.block _ lN6).trans qN6
            have lw7_1 := Nat.lt_of_lt_of_le lN6 bp3.size
            have sv7_0 := sv6_0.below bp3
            have sv7_1 := sv6_1.below bp3
            have sv7_2 := sv6_2.below bp3
            clear lw6_0 lN6 rw6_0 qN6
            clear bp3
            have bN8 : Below wp3.heap.size wp3 (wp3.alloc (.cells #[.int .i64 0, .int .i64 0, .int .i64 0, .int .i64 0, .int .i64 0] 37)) := (Below.refl _ _).alloc (Nat.le_refl _) _
            have rN8 := heap_alloc_new wp3 (.cells #[.int .i64 0, .int .i64 0, .int .i64 0, .int .i64 0, .int .i64 0] 37)
            have on8 : (#[.int .i64 ck, .int .i64 cc, .int .i64 cs, .int .i64 cn, .int .i64 cw] : Array Value).all (·.oneCell') = true := by simp [Value.oneCell']
            generalize hN8 : wp3.alloc (.cells #[.int .i64 0, .int .i64 0, .int .i64 0, .int .i64 0, .int .i64 0] 37) = N8 at bN8 rN8
            go_upto_region 17 with ((with_reducible (refine pxLook ?_)); (refine wpList_store_row rfl 37 (.tmp 17) (.tmp 104) rfl wp3.heap.size #[.int .i64 ck, .int .i64 cc, .int .i64 cs, .int .i64 cn, .int .i64 cw] rfl rfl 37 _ rN8 cm5 rfl on8 ?_))
            clear hN8
            have qN8 := setRow_heap N8 wp3.heap.size _ (#[.int .i64 ck, .int .i64 cc, .int .i64 cs, .int .i64 cn, .int .i64 cw]) 37 _ rN8
            replace bN8 := oBelow_rowP bN8 (Nat.le_refl _) (#[.int .i64 ck, .int .i64 cc, .int .i64 cs, .int .i64 cn, .int .i64 cw])
            generalize N8.setRow wp3.heap.size (#[.int .i64 ck, .int .i64 cc, .int .i64 cs, .int .i64 cn, .int .i64 cw]) = W8 at qN8 bN8 ⊢
            have lN8 : wp3.heap.size < W8.heap.size := (Array.getElem?_eq_some_iff.1 qN8).1
            clear rN8
            have d8 := d7.trans (bN8.mono d7.size)
            have tt8 := tt7.below bN8
            have rw8_0 := (bN8.block _ lw7_0).trans rw7_0
            have lw8_0 := Nat.lt_of_lt_of_le lw7_0 bN8.size
            have rw8_1 := (bN8.block _ lw7_1).trans rw7_1
            have lw8_1 := Nat.lt_of_lt_of_le lw7_1 bN8.size
            have sv8_0 := sv7_0.below bN8
            have sv8_1 := sv7_1.below bN8
            have sv8_2 := sv7_2.below bN8
            clear lw7_0 lw7_1 rw7_0 rw7_1
            obtain ⟨gZ, hgZ⟩ : ∃ g, g = wp3.heap.size := ⟨_, rfl⟩
            rw [← hgZ] at qN8 lN8 ⊢
            clear hgZ bN8
            have sF := sv8_0
            have tF := tt8
            have dF := d8
            have lgX := lw8_0
            have qgX := rw8_0
            have lgY := lw8_1
            have qgY := rw8_1
            have lgZ := lN8
            have qgZ := qN8
            obtain ⟨WF, hWF⟩ : ∃ W, W = W8 := ⟨_, rfl⟩
            subst hWF
            go_wp2_with fail
            go_loopw [20, 21] (fun fv iv ws => ∃ i : Nat, i ≤ k ∧ iv = .int .i64 (i : Int) ∧ fv = .bool ((VS.take i).any (fun u => decide (u.slot = s))) ∧ Below WF.heap.size WF ws) (fun _ iv _ => ((k : Int) - intOf iv).toNat)
            case atStart => exact ⟨0, by omega, rfl, rfl, Below.refl _ _⟩
            case round =>
              obtain ⟨i, hik, rfl, rfl, hb3⟩ := hrel
              have d3 := dF.trans (hb3.mono dF.size)
              by_cases hin : i < k
              · have hii : (i : Int) < (k : Int) := by omega
                obtain ⟨v, hv⟩ : ∃ v, VS[i]? = some v := ⟨_, List.getElem?_eq_getElem (by have := HNn.out; omega)⟩
                obtain ⟨bx, ox, hav2, ltx, rx⟩ := (sF.below hb3).spot i v hv
                have HT : Hid ((VS.take (i + 1)).any (fun u => decide (u.slot = s)) = ((VS.take i).any (fun u => decide (u.slot = s)) || decide (v.slot = s))) := by unfold Hid; rw [take_snocV VS i v hv]; simp
                subst hav2
                have ix := runIndexV bx ox k cv i hin
                have l0 : wr.cell? ⟨bx, ox + 8 * i, none⟩ = some (.int .i64 v.slot) := rx 0 _ rfl
                generalize (VS.take i).any (fun u => decide (u.slot = s)) = f0 at HT
                generalize v.slot = vv at l0 HT
                clear rx hv
                cases f0
                · go_wp2
                  go_roundw
                  case rel => exact ⟨i + 1, by omega, by go_num, by rw [HT.out]; by_cases e : vv = s <;> simp [e], hb3⟩
                  case measure => simp [intOf]; omega
                · go_wp2
                  go_roundw
                  case rel => exact ⟨i + 1, by omega, by go_num, by rw [HT.out]; simp, hb3⟩
                  case measure => simp [intOf]; omega
              · have HT : Hid ((VS.take i).any (fun u => decide (u.slot = s)) = F1) := by unfold Hid; rw [List.take_of_length_le (by have := HNn.out; omega)]; exact HF1.out
                rw [HT.out]
                have cgX0 : wr.cell? ⟨gX, 0, none⟩ = some (.int .i64 ck) := cell_of_row _ _ 0 _ _ _ ((hb3.block gX lgX).trans qgX)
                have cgX1 : wr.cell? ⟨gX, 1, none⟩ = some (.int .i64 cc) := cell_of_row _ _ 1 _ _ _ ((hb3.block gX lgX).trans qgX)
                have cgX2 : wr.cell? ⟨gX, 2, none⟩ = some (.int .i64 cs) := cell_of_row _ _ 2 _ _ _ ((hb3.block gX lgX).trans qgX)
                have cgX3 : wr.cell? ⟨gX, 3, none⟩ = some (.int .i64 cn) := cell_of_row _ _ 3 _ _ _ ((hb3.block gX lgX).trans qgX)
                have cgX4 : wr.cell? ⟨gX, 4, none⟩ = some (.int .i64 cw) := cell_of_row _ _ 4 _ _ _ ((hb3.block gX lgX).trans qgX)
                have cgY0 : wr.cell? ⟨gY, 0, none⟩ = some (.int .i64 ck) := cell_of_row _ _ 0 _ _ _ ((hb3.block gY lgY).trans qgY)
                have cgY1 : wr.cell? ⟨gY, 1, none⟩ = some (.int .i64 cc) := cell_of_row _ _ 1 _ _ _ ((hb3.block gY lgY).trans qgY)
                have cgY2 : wr.cell? ⟨gY, 2, none⟩ = some (.int .i64 cs) := cell_of_row _ _ 2 _ _ _ ((hb3.block gY lgY).trans qgY)
                have cgY3 : wr.cell? ⟨gY, 3, none⟩ = some (.int .i64 cn) := cell_of_row _ _ 3 _ _ _ ((hb3.block gY lgY).trans qgY)
                have cgY4 : wr.cell? ⟨gY, 4, none⟩ = some (.int .i64 cw) := cell_of_row _ _ 4 _ _ _ ((hb3.block gY lgY).trans qgY)
                have cgZ0 : wr.cell? ⟨gZ, 0, none⟩ = some (.int .i64 ck) := cell_of_row _ _ 0 _ _ _ ((hb3.block gZ lgZ).trans qgZ)
                have cgZ1 : wr.cell? ⟨gZ, 1, none⟩ = some (.int .i64 cc) := cell_of_row _ _ 1 _ _ _ ((hb3.block gZ lgZ).trans qgZ)
                have cgZ2 : wr.cell? ⟨gZ, 2, none⟩ = some (.int .i64 cs) := cell_of_row _ _ 2 _ _ _ ((hb3.block gZ lgZ).trans qgZ)
                have cgZ3 : wr.cell? ⟨gZ, 3, none⟩ = some (.int .i64 cn) := cell_of_row _ _ 3 _ _ _ ((hb3.block gZ lgZ).trans qgZ)
                have cgZ4 : wr.cell? ⟨gZ, 4, none⟩ = some (.int .i64 cw) := cell_of_row _ _ 4 _ _ _ ((hb3.block gZ lgZ).trans qgZ)
                have hq := eql_com ck cc cs cn cw ck cc cs cn cw
                rw [decide_eq_true ⟨rfl, rfl, rfl, rfl, rfl⟩] at hq
                clear HT
                go_wp2_with fail
                refine (check_acc ⟨0, 1⟩ (.slice none 0 0) [] wr (Sv.nil _) (tF.below hb3)).mono ?_
                rintro e W9 ⟨rfl, b9⟩
                have d9 := d3.trans (b9.mono d3.size)
                rw [show accE ⟨⟨0, 1⟩, []⟩ = 5 from if_neg (fun g => by have g1 := g.1; simp [PrMay, BalMay] at g1)]
                clear cgX0 cgX1 cgX2 cgX3 cgX4 cgY0 cgY1 cgY2 cgY3 cgY4 cgZ0 cgZ1 cgZ2 cgZ3 cgZ4 hq
                go_wp2
                go_ret
                exact ⟨by simp, d9⟩
      · go_wp2_with fail
        go_loopw [7, 8, 9] (fun bv lv iv ws => ∃ (k : Nat) (ys : List Value), k ≤ n ∧ iv = .int .i64 ((n : Int) - 1 - (k : Int)) ∧ ws.ownsRow W.heap.size 39 8 bv (VS.drop (n - k)).reverse.length (vtL (VS.drop (n - k)).reverse) ∧ ws.ownsRow W.heap.size 25 1 lv k ys ∧ Rs ws ys (VS.drop (n - k)).reverse ∧ Apart ys bv ∧ Below W.heap.size W ws) (fun _ _ iv _ => (intOf iv + 1).toNat)
        case atStart => exact ⟨0, [], by omega, by simp, by rw [show VS.drop (n - 0) = [] from List.drop_eq_nil_of_le (by have := HNn.out; omega)]; exact World.ownsRow_nil _ _ _ _, World.ownsRow_nil _ _ _ _, by rw [show VS.drop (n - 0) = [] from List.drop_eq_nil_of_le (by have := HNn.out; omega)]; exact ⟨rfl, fun i y u h1 => by simp at h1⟩, fun y hy => (List.not_mem_nil hy).elim, Below.refl _ _⟩
        case round =>
          obtain ⟨k, ys, hkn, rfl, hob, hol, hrs, hap, hb2⟩ := hrel
          have hlb := hob.lt
          have hll := hol.lt
          have HOB : Hid (wr.ownsRow W.heap.size 39 8 u7 (VS.drop (n - k)).reverse.length (vtL (VS.drop (n - k)).reverse)) := hob
          have HOL : Hid (wr.ownsRow W.heap.size 25 1 u8 k ys) := hol
          have HRS : Hid (Rs wr ys (VS.drop (n - k)).reverse) := hrs
          have HAP : Hid (Apart ys u7) := hap
          have z2 := hb2.size
          have hLk : (VS.drop (n - k)).reverse.length = k := by rw [List.length_reverse, List.length_drop]; have := HNn.out; omega
          clear hob hol hrs hap
          by_cases hk : k < n
          · obtain ⟨m, hm⟩ : ∃ m : Nat, m = n - 1 - k := ⟨_, rfl⟩
            have hmi : (n : Int) - 1 - (k : Int) = (m : Int) := by omega
            have hmn : m < n := by omega
            obtain ⟨v, hv⟩ : ∃ v, VS[m]? = some v := ⟨_, List.getElem?_eq_getElem (by have := HNn.out; omega)⟩
            have HE : Hid ((VS.drop (n - (k + 1))).reverse = (VS.drop (n - k)).reverse ++ [v]) := by
              unfold Hid
              obtain ⟨hm', e⟩ := List.getElem?_eq_some_iff.1 hv
              rw [show n - (k + 1) = m by omega, show n - k = m + 1 by omega, List.drop_eq_getElem_cons hm', e, List.reverse_cons]
            obtain ⟨bx, ox, hav2, ltx, rx⟩ := (sV0.below hb2).spot m v hv
            have hgx : ∀ ws', Below W.heap.size W ws' → ws'.rangeAt bx (ox + 8 * m) (vtC v) := fun ws' hb => by
              obtain ⟨bx', ox', e', _, rx'⟩ := (sV0.below hb).spot m v hv
              rw [hav2] at e'
              simp only [Option.some.injEq, Addr.mk.injEq] at e'
              rw [e'.1, e'.2.1]
              exact rx'
            have HGX : Hid (∀ ws', Below W.heap.size W ws' → ws'.rangeAt bx (ox + 8 * m) (vtC v)) := hgx
            subst hav2
            have ix := runIndexV bx ox n cv m hmn
            have hsz := sizeVt v
            generalize (VS.drop (n - k)).reverse = BK at HOB HRS HE hLk
            have HLk : Hid (BK.length = k) := hLk
            have hBK : BK.length ≤ 20 := by omega
            clear hLk
            rw [hmi]
            have HMm : Hid (m = n - 1 - k) := hm
            clear hv hgx hmi hm
            obtain ⟨vs, ⟨vr, vn⟩, ⟨vk, vc, vq, vm, vx⟩⟩ := v
            simp only [vtC] at rx hsz
            have hmg : (0 : Int) ≤ (m : Int) := by omega
            go_wp2_with ((with_reducible (refine pxLook ?_)); first | (refine wpList_load_mid rfl 39 _ rfl bx (ox + 8 * m) rfl [.int .i64 vs, .int .i64 vr, .int .i64 vn, .int .i64 vk, .int .i64 vc, .int .i64 vq, .int .i64 vm, .int .i64 vx] _ rx Tryd.underlying39 rfl hsz ?_) | (at_builtin; refine wpList_append_vt _ rfl _ _ 25 rfl W.heap.size 39 zVt Tryd.underlying25 infoVt rfl _ _ rfl rfl BK [(⟨vs, ⟨vr, vn⟩, ⟨vk, vc, vq, vm, vx⟩⟩ : Vt)] (HOB.out.alloc _) (Sv.one _ (⟨vs, ⟨vr, vn⟩, ⟨vk, vc, vq, vm, vx⟩⟩ : Vt) _ rfl) (by simp; omega) (by simp; omega) ?_))
            intro v4 w4 o4 g4
            have e4 : Below W.heap.size W w4 := (hb2.alloc (by omega) _).grown g4 (by simp; omega) (fun q hq => (hlb q hq).1)
            have HO4 : Hid (w4.ownsRow W.heap.size 39 8 v4 (BK ++ [(⟨vs, ⟨vr, vn⟩, ⟨vk, vc, vq, vm, vx⟩⟩ : Vt)]).length (vtL (BK ++ [(⟨vs, ⟨vr, vn⟩, ⟨vk, vc, vq, vm, vx⟩⟩ : Vt)]))) := by unfold Hid; rw [List.length_append]; exact o4
            have HRS4 : Hid (Rs w4 ys BK) := by
              refine HRS.out.keep (fun y hy g hg hglt => ?_)
              rw [g4.block g (by simp; omega) (fun e => HAP.out y hy g hg e.symm)]
              exact heap_alloc_old _ _ hglt
            have HAP4 : Hid (Apart ys v4) := by
              rcases Nat.eq_zero_or_pos k with h0 | h0
              · have : ys = [] := List.eq_nil_of_length_eq_zero (by have := HOL.out.1; omega)
                rw [this]
                exact fun y hy => (List.not_mem_nil hy).elim
              · exact HRS4.out.longer HO4.out (by rw [List.length_append, HLk.out]; simp; omega)
            have HOL4 : Hid (w4.ownsRow W.heap.size 25 1 u8 k ys) := ownsTy HOL.out HOB.out (by decide) (by simp) (fun g hg => heap_alloc_old _ _ hg) g4
            have hl4 := HO4.out.lt
            have hll4 := HOL4.out.lt
            have z4 := e4.size
            have rx4 := HGX.out w4 e4
            simp only [vtC] at rx4
            clear o4 g4 HRS HAP HOL HOB rx hlb hll
            have bG : Below w4.heap.size w4 (w4.alloc (.cells (vtA (⟨vs, ⟨vr, vn⟩, ⟨vk, vc, vq, vm, vx⟩⟩ : Vt)) 39)) := (Below.refl _ _).alloc (Nat.le_refl _) _
            have rG := heap_alloc_new w4 (.cells (vtA (⟨vs, ⟨vr, vn⟩, ⟨vk, vc, vq, vm, vx⟩⟩ : Vt)) 39)
            have hbv := runBuildV (⟨vs, ⟨vr, vn⟩, ⟨vk, vc, vq, vm, vx⟩⟩ : Vt) w4
            simp only [vtA, vtC] at bG rG hbv
            generalize hWG : w4.alloc (.cells [.int .i64 vs, .int .i64 vr, .int .i64 vn, .int .i64 vk, .int .i64 vc, .int .i64 vq, .int .i64 vm, .int .i64 vx].toArray 39) = WG at bG rG hbv
            have bS : Below WG.heap.size WG (WG.alloc (.cells #[.slice (some ⟨w4.heap.size, 0, none⟩) 1 1] 25)) := (Below.refl _ _).alloc (Nat.le_refl _) _
            have rS := heap_alloc_new WG (.cells #[.slice (some ⟨w4.heap.size, 0, none⟩) 1 1] 25)
            have hbs := runBuildS1 WG (some ⟨w4.heap.size, 0, none⟩) 1 1
            generalize hWS : WG.alloc (.cells #[.slice (some ⟨w4.heap.size, 0, none⟩) 1 1] 25) = WS at bS rS hbs
            have zG := bG.size
            have zS := bS.size
            have lgG : w4.heap.size < WG.heap.size := (Array.getElem?_eq_some_iff.1 rG).1
            have HOLS : Hid (WS.ownsRow W.heap.size 25 1 u8 k ys) := ownsV_keep (ownsV_keep HOL4.out (fun q hq => bG.block q (hll4 q hq).2)) (fun q hq => bS.block q (by have := (hll4 q hq).2; omega))
            have HOS : Hid (WS.ownsRow W.heap.size 39 8 v4 (BK ++ [(⟨vs, ⟨vr, vn⟩, ⟨vk, vc, vq, vm, vx⟩⟩ : Vt)]).length (vtL (BK ++ [(⟨vs, ⟨vr, vn⟩, ⟨vk, vc, vq, vm, vx⟩⟩ : Vt)]))) := ownsV_keep (ownsV_keep HO4.out (fun q hq => bG.block q (hl4 q hq).2)) (fun q hq => bS.block q (by have := (hl4 q hq).2; omega))
            have HRSS : Hid (Rs WS (ys ++ [.slice (some ⟨w4.heap.size, 0, none⟩) 1 1]) (BK ++ [(⟨vs, ⟨vr, vn⟩, ⟨vk, vc, vq, vm, vx⟩⟩ : Vt)])) := by
              refine Rs.snoc ?_ ((bS.block w4.heap.size lgG).trans rG)
              exact (HRS4.out.keep (fun y hy g hg hglt => bG.block g hglt)).keep (fun y hy g hg hglt => bS.block g hglt)
            have HAPS : Hid (Apart (ys ++ [.slice (some ⟨w4.heap.size, 0, none⟩) 1 1]) v4) := by
              intro y hy g hg e
              rcases List.mem_append.1 hy with hy | hy
              · exact HAP4.out y hy g hg e
              · obtain rfl : y = .slice (some ⟨w4.heap.size, 0, none⟩) 1 1 := by simpa using hy
                have : w4.heap.size = g := by simpa [Value.ownBlock] using hg
                have := (hl4 g e).2
                omega
            have eS : Below W.heap.size W WS := (e4.trans (bG.mono (by omega))).trans (bS.mono (by omega))
            have hllS := HOLS.out.lt
            clear HRS4 HAP4 HOL4 HO4
            go_wp2_with ((with_reducible (refine pxLook ?_)); first | (refine wpList_load_mid rfl 39 _ rfl bx (ox + 8 * m) rfl [.int .i64 vs, .int .i64 vr, .int .i64 vn, .int .i64 vk, .int .i64 vc, .int .i64 vq, .int .i64 vm, .int .i64 vx] _ rx4 Tryd.underlying39 rfl hsz ?_) | (at_builtin; refine wpList_append_one _ rfl _ _ 45 rfl W.heap.size 25 1 24 _ Tryd.underlying45 infoSv rfl (by omega) u8 k ys WG.heap.size [.slice (some ⟨w4.heap.size, 0, none⟩) 1 1] rfl rfl HOLS.out rfl (one_range rS) (by intro u hu; obtain rfl : u = .slice (some ⟨w4.heap.size, 0, none⟩) 1 1 := (by simpa using hu); rfl) (by omega) (by omega) (by omega) ?_))
            intro v6 w6 o6 g6
            have e6 : Below W.heap.size W w6 := eS.grown g6 (by omega) (fun q hq => (hllS q hq).1)
            have HO6 : Hid (w6.ownsRow W.heap.size 39 8 v4 (BK ++ [(⟨vs, ⟨vr, vn⟩, ⟨vk, vc, vq, vm, vx⟩⟩ : Vt)]).length (vtL (BK ++ [(⟨vs, ⟨vr, vn⟩, ⟨vk, vc, vq, vm, vx⟩⟩ : Vt)]))) := ownsTy HOS.out HOLS.out (by decide) (Nat.le_refl _) (fun _ _ => rfl) g6
            have HRS6 : Hid (Rs w6 (ys ++ [.slice (some ⟨w4.heap.size, 0, none⟩) 1 1]) (BK ++ [(⟨vs, ⟨vr, vn⟩, ⟨vk, vc, vq, vm, vx⟩⟩ : Vt)])) := by
              refine HRSS.out.keep (fun y hy g hg hglt => g6.block g hglt (fun e => ?_))
              obtain ⟨u, hu⟩ := HRSS.out.block hy hg
              rcases HOLS.out.2 with ⟨h1, _⟩ | ⟨q, cap, cur, h1, _, h2, _⟩
              · rw [h1] at e; cases e
              · rw [h1] at e
                have : q = g := by simpa [Value.ownBlock] using e.symm
                rw [this, hu] at h2
                simp only [Option.some.injEq, Obj.cells.injEq] at h2
                exact absurd h2.2.1 (by decide)
            have HO7 : Hid (w6.ownsRow W.heap.size 25 1 v6 (k + 1) (ys ++ [.slice (some ⟨w4.heap.size, 0, none⟩) 1 1])) := o6
            clear o6 g6 HOS HOLS HRSS hWG hWS hbs hbv rS rG
            go_wp2
            go_roundw
            case rel => exact ⟨k + 1, _, by omega, (show (Value.int .i64 ((m : Int) - 1)) = _ by rw [show (m : Int) - 1 = (n : Int) - 1 - ((k + 1 : Nat) : Int) by have := HMm.out; omega]), by rw [HE.out]; exact HO6.out, HO7.out, by rw [HE.out]; exact HRS6.out, HAPS.out, e6⟩
            case measure => first | (simp [intOf]; done) | (simp [intOf]; omega)
          · obtain rfl : k = n := by omega
            have HBK : Hid ((VS.drop (k - k)).reverse = VS.reverse) := by unfold Hid; rw [Nat.sub_self, List.drop_zero]
            rw [HBK.out] at HOB HRS hLk
            have dr := hbel.trans (hb2.mono hbel.size)
            have tr := tW.below hb2
            have sV := sV0.below hb2
            have sB : Sv wr u7 VS.reverse := Sv.ofOwns HOB.out (by omega)
            have sLs : Svv wr u8 (VS.reverse.map fun u => [u]) := Svv.ofRv (by rw [List.length_map, hLk]; exact HOL.out) HRS.out.rv (by rw [List.length_map]; omega)
            obtain ⟨ab, cb, hab⟩ := sB.shape
            rw [hLk] at hab
            subst hab
            have hs39 : ∀ t, 0 ≤ t ∧ t < 3 → 0 ≤ t ∧ t ≤ (39 : Int) := fun t ht => by omega
            have HPA : Hid (∀ t, 0 ≤ t ∧ t < 3 → pickE [VS] t = 0 ∧ pickF [VS] t = VS.any (fun u => decide (u.slot = t))) := fun t ht => ⟨(HD.out.pick HVl.out (hs39 t ht) [VS] (fun u => by simp)).1, (HD.out.pick HVl.out (hs39 t ht) [VS] (fun u => by simp)).2.2⟩
            have HPB : Hid (∀ t, 0 ≤ t ∧ t < 3 → pickE [VS.reverse] t = 0 ∧ pickC [VS.reverse] t = pickC [VS] t ∧ pickF [VS.reverse] t = VS.any (fun u => decide (u.slot = t))) := fun t ht => HD.out.pick HVl.out (hs39 t ht) [VS.reverse] (fun u => by simp)
            have HPC : Hid (∀ t, 0 ≤ t ∧ t < 3 → pickE (VS.reverse.map fun u => [u]) t = 0 ∧ pickC (VS.reverse.map fun u => [u]) t = pickC [VS] t ∧ pickF (VS.reverse.map fun u => [u]) t = VS.any (fun u => decide (u.slot = t))) := fun t ht => HD.out.pick HVl.out (hs39 t ht) _ (fun u => by rw [flat1]; simp)
            have hneg : ¬ (0 : Int) ≤ (k : Int) - 1 - (k : Int) := by omega
            clear HOB HOL HRS HAP hlb hll hs39
            go_wp2_with fail
            refine (isl.picked 3 _ (by omega) (by omega)).mono ?_
            rintro e wq ⟨rfl, hwq⟩
            replace hwq := hwq.symm
            subst hwq
            generalize hs : pick sl 3 = s at p3 ⊢
            clear hs
            have PA := HPA.out s p3
            have PB := HPB.out s p3
            have PC := HPC.out s p3
            clear HPA HPB HPC
            have HPA : Hid (_ ∧ _) := PA
            have HPB : Hid (_ ∧ _) := PB
            have HPC : Hid (_ ∧ _) := PC
            clear PA PB PC
            obtain ⟨C1, hC1⟩ : ∃ C1, pickC [VS] s = C1 := ⟨_, rfl⟩
            have HC1 : Hid (pickC [VS] s = C1) := hC1
            clear hC1
            obtain ⟨F1, hF1⟩ : ∃ F1, VS.any (fun u => decide (u.slot = s)) = F1 := ⟨_, rfl⟩
            have HF1 : Hid (VS.any (fun u => decide (u.slot = s)) = F1) := hF1
            clear hF1
            obtain ⟨ck, cc, cs, cn, cw⟩ := C1
            have bS1 : Below wr.heap.size wr (wr.alloc (.cells #[.slice av k cv] 25)) := (Below.refl _ _).alloc (Nat.le_refl _) _
            have rS1 := heap_alloc_new wr (.cells #[.slice av k cv] 25)
            have hbs1 := runBuildS1 wr av k cv
            generalize hWS1 : wr.alloc (.cells #[.slice av k cv] 25) = WS1 at bS1 rS1 hbs1
            go_wp2_with fail
            clear hWS1 hbs1
            have d1 := dr.trans (bS1.mono dr.size)
            have tt1 := tr.below bS1
            have sv1_0 := sV.below bS1
            have sv1_1 := sB.below bS1
            have sv1_2 := sLs.below bS1
            clear bS1
            have svv1 := Svv.single rS1 sv1_0
            clear rS1
            refine (pick_any (.slice (some ⟨wr.heap.size, 0, none⟩) 1 1) [VS] s WS1 svv1 tt1).mono ?_
            rintro e wp1 ⟨rfl, bp1⟩
            rw [HPA.out.1, HPA.out.2, HC1.out, HF1.out]
            simp only [cmC, cmA]
            have d2 := d1.trans (bp1.mono d1.size)
            have tt2 := tt1.below bp1
            have sv2_0 := sv1_0.below bp1
            have sv2_1 := sv1_1.below bp1
            have sv2_2 := sv1_2.below bp1
            clear bp1
            have bN3 : Below wp1.heap.size wp1 (wp1.alloc (.cells #[.int .i64 0, .int .i64 0, .int .i64 0, .int .i64 0, .int .i64 0] 37)) := (Below.refl _ _).alloc (Nat.le_refl _) _
            have rN3 := heap_alloc_new wp1 (.cells #[.int .i64 0, .int .i64 0, .int .i64 0, .int .i64 0, .int .i64 0] 37)
            have on3 : (#[.int .i64 ck, .int .i64 cc, .int .i64 cs, .int .i64 cn, .int .i64 cw] : Array Value).all (·.oneCell') = true := by simp [Value.oneCell']
            generalize hN3 : wp1.alloc (.cells #[.int .i64 0, .int .i64 0, .int .i64 0, .int .i64 0, .int .i64 0] 37) = N3 at bN3 rN3
            go_upto_region 15 with ((with_reducible (refine pxLook ?_)); (refine wpList_store_row rfl 37 (.tmp 11) (.tmp 89) rfl wp1.heap.size #[.int .i64 ck, .int .i64 cc, .int .i64 cs, .int .i64 cn, .int .i64 cw] rfl rfl 37 _ rN3 cm5 rfl on3 ?_))
            clear hN3
            have qN3 := setRow_heap N3 wp1.heap.size _ (#[.int .i64 ck, .int .i64 cc, .int .i64 cs, .int .i64 cn, .int .i64 cw]) 37 _ rN3
            replace bN3 := oBelow_rowP bN3 (Nat.le_refl _) (#[.int .i64 ck, .int .i64 cc, .int .i64 cs, .int .i64 cn, .int .i64 cw])
            generalize N3.setRow wp1.heap.size (#[.int .i64 ck, .int .i64 cc, .int .i64 cs, .int .i64 cn, .int .i64 cw]) = W3 at qN3 bN3 ⊢
            have lN3 : wp1.heap.size < W3.heap.size := (Array.getElem?_eq_some_iff.1 qN3).1
            clear rN3
            have d3 := d2.trans (bN3.mono d2.size)
            have tt3 := tt2.below bN3
            have sv3_0 := sv2_0.below bN3
            have sv3_1 := sv2_1.below bN3
            have sv3_2 := sv2_2.below bN3
            obtain ⟨gX, hgX⟩ : ∃ g, g = wp1.heap.size := ⟨_, rfl⟩
            rw [← hgX] at qN3 lN3 ⊢
            clear hgX bN3
            have bS2 : Below W3.heap.size W3 (W3.alloc (.cells #[.slice ab k cb] 25)) := (Below.refl _ _).alloc (Nat.le_refl _) _
            have rS2 := heap_alloc_new W3 (.cells #[.slice ab k cb] 25)
            have hbs2 := runBuildS1 W3 ab k cb
            generalize hWS2 : W3.alloc (.cells #[.slice ab k cb] 25) = WS2 at bS2 rS2 hbs2
            go_wp2_with fail
            clear hWS2 hbs2
            have d4 := d3.trans (bS2.mono d3.size)
            have tt4 := tt3.below bS2
            have rw4_0 := (bS2.block _ lN3).trans qN3
            have lw4_0 := Nat.lt_of_lt_of_le lN3 bS2.size
            have sv4_0 := sv3_0.below bS2
            have sv4_1 := sv3_1.below bS2
            have sv4_2 := sv3_2.below bS2
            clear lN3 qN3
            clear bS2
            have svv2 := Svv.single rS2 sv4_1
            clear rS2
            refine (pick_any (.slice (some ⟨W3.heap.size, 0, none⟩) 1 1) [VS.reverse] s WS2 svv2 tt4).mono ?_
            rintro e wp2 ⟨rfl, bp2⟩
            rw [HPB.out.1, HPB.out.2.1, HPB.out.2.2, HC1.out, HF1.out]
            simp only [cmC, cmA]
            have d5 := d4.trans (bp2.mono d4.size)
            have tt5 := tt4.below bp2
            have rw5_0 := (bp2.block _ lw4_0).trans rw4_0
            have lw5_0 := Nat.lt_of_lt_of_le lw4_0 bp2.size
            have sv5_0 := sv4_0.below bp2
            have sv5_1 := sv4_1.below bp2
            have sv5_2 := sv4_2.below bp2
            clear lw4_0 rw4_0
            clear bp2
            have bN6 : Below wp2.heap.size wp2 (wp2.alloc (.cells #[.int .i64 0, .int .i64 0, .int .i64 0, .int .i64 0, .int .i64 0] 37)) := (Below.refl _ _).alloc (Nat.le_refl _) _
            have rN6 := heap_alloc_new wp2 (.cells #[.int .i64 0, .int .i64 0, .int .i64 0, .int .i64 0, .int .i64 0] 37)
            have on6 : (#[.int .i64 ck, .int .i64 cc, .int .i64 cs, .int .i64 cn, .int .i64 cw] : Array Value).all (·.oneCell') = true := by simp [Value.oneCell']
            generalize hN6 : wp2.alloc (.cells #[.int .i64 0, .int .i64 0, .int .i64 0, .int .i64 0, .int .i64 0] 37) = N6 at bN6 rN6
            go_upto_region 16 with ((with_reducible (refine pxLook ?_)); (refine wpList_store_row rfl 37 (.tmp 14) (.tmp 97) rfl wp2.heap.size #[.int .i64 ck, .int .i64 cc, .int .i64 cs, .int .i64 cn, .int .i64 cw] rfl rfl 37 _ rN6 cm5 rfl on6 ?_))
            clear hN6
            have qN6 := setRow_heap N6 wp2.heap.size _ (#[.int .i64 ck, .int .i64 cc, .int .i64 cs, .int .i64 cn, .int .i64 cw]) 37 _ rN6
            replace bN6 := oBelow_rowP bN6 (Nat.le_refl _) (#[.int .i64 ck, .int .i64 cc, .int .i64 cs, .int .i64 cn, .int .i64 cw])
            generalize N6.setRow wp2.heap.size (#[.int .i64 ck, .int .i64 cc, .int .i64 cs, .int .i64 cn, .int .i64 cw]) = W6 at qN6 bN6 ⊢
            have lN6 : wp2.heap.size < W6.heap.size := (Array.getElem?_eq_some_iff.1 qN6).1
            clear rN6
            have d6 := d5.trans (bN6.mono d5.size)
            have tt6 := tt5.below bN6
            have rw6_0 := (bN6.block _ lw5_0).trans rw5_0
            have lw6_0 := Nat.lt_of_lt_of_le lw5_0 bN6.size
            have sv6_0 := sv5_0.below bN6
            have sv6_1 := sv5_1.below bN6
            have sv6_2 := sv5_2.below bN6
            clear lw5_0 rw5_0
            obtain ⟨gY, hgY⟩ : ∃ g, g = wp2.heap.size := ⟨_, rfl⟩
            rw [← hgY] at qN6 lN6 ⊢
            clear hgY bN6
            go_wp2_with fail
            refine (pick_any u8 (VS.reverse.map fun u => [u]) s W6 sv6_2 tt6).mono ?_
            rintro e wp3 ⟨rfl, bp3⟩
            rw [HPC.out.1, HPC.out.2.1, HPC.out.2.2, HC1.out, HF1.out]
            simp only [cmC, cmA]
            have d7 := d6.trans (bp3.mono d6.size)
            have tt7 := tt6.below bp3
            have rw7_0 := (bp3.block _ lw6_0).trans rw6_0
            have lw7_0 := Nat.lt_of_lt_of_le lw6_0 bp3.size
            have rw7_1 := (bp3.block _ lN6).trans qN6
            have lw7_1 := Nat.lt_of_lt_of_le lN6 bp3.size
            have sv7_0 := sv6_0.below bp3
            have sv7_1 := sv6_1.below bp3
            have sv7_2 := sv6_2.below bp3
            clear lw6_0 lN6 rw6_0 qN6
            clear bp3
            have bN8 : Below wp3.heap.size wp3 (wp3.alloc (.cells #[.int .i64 0, .int .i64 0, .int .i64 0, .int .i64 0, .int .i64 0] 37)) := (Below.refl _ _).alloc (Nat.le_refl _) _
            have rN8 := heap_alloc_new wp3 (.cells #[.int .i64 0, .int .i64 0, .int .i64 0, .int .i64 0, .int .i64 0] 37)
            have on8 : (#[.int .i64 ck, .int .i64 cc, .int .i64 cs, .int .i64 cn, .int .i64 cw] : Array Value).all (·.oneCell') = true := by simp [Value.oneCell']
            generalize hN8 : wp3.alloc (.cells #[.int .i64 0, .int .i64 0, .int .i64 0, .int .i64 0, .int .i64 0] 37) = N8 at bN8 rN8
            go_upto_region 17 with ((with_reducible (refine pxLook ?_)); (refine wpList_store_row rfl 37 (.tmp 17) (.tmp 104) rfl wp3.heap.size #[.int .i64 ck, .int .i64 cc, .int .i64 cs, .int .i64 cn, .int .i64 cw] rfl rfl 37 _ rN8 cm5 rfl on8 ?_))
            clear hN8
            have qN8 := setRow_heap N8 wp3.heap.size _ (#[.int .i64 ck, .int .i64 cc, .int .i64 cs, .int .i64 cn, .int .i64 cw]) 37 _ rN8
            replace bN8 := oBelow_rowP bN8 (Nat.le_refl _) (#[.int .i64 ck, .int .i64 cc, .int .i64 cs, .int .i64 cn, .int .i64 cw])
            generalize N8.setRow wp3.heap.size (#[.int .i64 ck, .int .i64 cc, .int .i64 cs, .int .i64 cn, .int .i64 cw]) = W8 at qN8 bN8 ⊢
            have lN8 : wp3.heap.size < W8.heap.size := (Array.getElem?_eq_some_iff.1 qN8).1
            clear rN8
            have d8 := d7.trans (bN8.mono d7.size)
            have tt8 := tt7.below bN8
            have rw8_0 := (bN8.block _ lw7_0).trans rw7_0
            have lw8_0 := Nat.lt_of_lt_of_le lw7_0 bN8.size
            have rw8_1 := (bN8.block _ lw7_1).trans rw7_1
            have lw8_1 := Nat.lt_of_lt_of_le lw7_1 bN8.size
            have sv8_0 := sv7_0.below bN8
            have sv8_1 := sv7_1.below bN8
            have sv8_2 := sv7_2.below bN8
            clear lw7_0 lw7_1 rw7_0 rw7_1
            obtain ⟨gZ, hgZ⟩ : ∃ g, g = wp3.heap.size := ⟨_, rfl⟩
            rw [← hgZ] at qN8 lN8 ⊢
            clear hgZ bN8
            have sF := sv8_0
            have tF := tt8
            have dF := d8
            have lgX := lw8_0
            have qgX := rw8_0
            have lgY := lw8_1
            have qgY := rw8_1
            have lgZ := lN8
            have qgZ := qN8
            obtain ⟨WF, hWF⟩ : ∃ W, W = W8 := ⟨_, rfl⟩
            subst hWF
            go_wp2_with fail
            go_loopw [20, 21] (fun fv iv ws => ∃ i : Nat, i ≤ k ∧ iv = .int .i64 (i : Int) ∧ fv = .bool ((VS.take i).any (fun u => decide (u.slot = s))) ∧ Below WF.heap.size WF ws) (fun _ iv _ => ((k : Int) - intOf iv).toNat)
            case atStart => exact ⟨0, by omega, rfl, rfl, Below.refl _ _⟩
            case round =>
              obtain ⟨i, hik, rfl, rfl, hb3⟩ := hrel
              have d3 := dF.trans (hb3.mono dF.size)
              by_cases hin : i < k
              · have hii : (i : Int) < (k : Int) := by omega
                obtain ⟨v, hv⟩ : ∃ v, VS[i]? = some v := ⟨_, List.getElem?_eq_getElem (by have := HNn.out; omega)⟩
                obtain ⟨bx, ox, hav2, ltx, rx⟩ := (sF.below hb3).spot i v hv
                have HT : Hid ((VS.take (i + 1)).any (fun u => decide (u.slot = s)) = ((VS.take i).any (fun u => decide (u.slot = s)) || decide (v.slot = s))) := by unfold Hid; rw [take_snocV VS i v hv]; simp
                subst hav2
                have ix := runIndexV bx ox k cv i hin
                have l0 : wr.cell? ⟨bx, ox + 8 * i, none⟩ = some (.int .i64 v.slot) := rx 0 _ rfl
                generalize (VS.take i).any (fun u => decide (u.slot = s)) = f0 at HT
                generalize v.slot = vv at l0 HT
                clear rx hv
                cases f0
                · go_wp2
                  go_roundw
                  case rel => exact ⟨i + 1, by omega, by go_num, by rw [HT.out]; by_cases e : vv = s <;> simp [e], hb3⟩
                  case measure => simp [intOf]; omega
                · go_wp2
                  go_roundw
                  case rel => exact ⟨i + 1, by omega, by go_num, by rw [HT.out]; simp, hb3⟩
                  case measure => simp [intOf]; omega
              · have HT : Hid ((VS.take i).any (fun u => decide (u.slot = s)) = F1) := by unfold Hid; rw [List.take_of_length_le (by have := HNn.out; omega)]; exact HF1.out
                rw [HT.out]
                have cgX0 : wr.cell? ⟨gX, 0, none⟩ = some (.int .i64 ck) := cell_of_row _ _ 0 _ _ _ ((hb3.block gX lgX).trans qgX)
                have cgX1 : wr.cell? ⟨gX, 1, none⟩ = some (.int .i64 cc) := cell_of_row _ _ 1 _ _ _ ((hb3.block gX lgX).trans qgX)
                have cgX2 : wr.cell? ⟨gX, 2, none⟩ = some (.int .i64 cs) := cell_of_row _ _ 2 _ _ _ ((hb3.block gX lgX).trans qgX)
                have cgX3 : wr.cell? ⟨gX, 3, none⟩ = some (.int .i64 cn) := cell_of_row _ _ 3 _ _ _ ((hb3.block gX lgX).trans qgX)
                have cgX4 : wr.cell? ⟨gX, 4, none⟩ = some (.int .i64 cw) := cell_of_row _ _ 4 _ _ _ ((hb3.block gX lgX).trans qgX)
                have cgY0 : wr.cell? ⟨gY, 0, none⟩ = some (.int .i64 ck) := cell_of_row _ _ 0 _ _ _ ((hb3.block gY lgY).trans qgY)
                have cgY1 : wr.cell? ⟨gY, 1, none⟩ = some (.int .i64 cc) := cell_of_row _ _ 1 _ _ _ ((hb3.block gY lgY).trans qgY)
                have cgY2 : wr.cell? ⟨gY, 2, none⟩ = some (.int .i64 cs) := cell_of_row _ _ 2 _ _ _ ((hb3.block gY lgY).trans qgY)
                have cgY3 : wr.cell? ⟨gY, 3, none⟩ = some (.int .i64 cn) := cell_of_row _ _ 3 _ _ _ ((hb3.block gY lgY).trans qgY)
                have cgY4 : wr.cell? ⟨gY, 4, none⟩ = some (.int .i64 cw) := cell_of_row _ _ 4 _ _ _ ((hb3.block gY lgY).trans qgY)
                have cgZ0 : wr.cell? ⟨gZ, 0, none⟩ = some (.int .i64 ck) := cell_of_row _ _ 0 _ _ _ ((hb3.block gZ lgZ).trans qgZ)
                have cgZ1 : wr.cell? ⟨gZ, 1, none⟩ = some (.int .i64 cc) := cell_of_row _ _ 1 _ _ _ ((hb3.block gZ lgZ).trans qgZ)
                have cgZ2 : wr.cell? ⟨gZ, 2, none⟩ = some (.int .i64 cs) := cell_of_row _ _ 2 _ _ _ ((hb3.block gZ lgZ).trans qgZ)
                have cgZ3 : wr.cell? ⟨gZ, 3, none⟩ = some (.int .i64 cn) := cell_of_row _ _ 3 _ _ _ ((hb3.block gZ lgZ).trans qgZ)
                have cgZ4 : wr.cell? ⟨gZ, 4, none⟩ = some (.int .i64 cw) := cell_of_row _ _ 4 _ _ _ ((hb3.block gZ lgZ).trans qgZ)
                have hq := eql_com ck cc cs cn cw ck cc cs cn cw
                rw [decide_eq_true ⟨rfl, rfl, rfl, rfl, rfl⟩] at hq
                clear HT
                go_wp2_with fail
                refine (check_acc ⟨0, 1⟩ (.slice none 0 0) [] wr (Sv.nil _) (tF.below hb3)).mono ?_
                rintro e W9 ⟨rfl, b9⟩
                have d9 := d3.trans (b9.mono d3.size)
                rw [show accE ⟨⟨0, 1⟩, []⟩ = 5 from if_neg (fun g => by have g1 := g.1; simp [PrMay, BalMay] at g1)]
                clear cgX0 cgX1 cgX2 cgX3 cgX4 cgY0 cgY1 cgY2 cgY3 cgY4 cgZ0 cgZ1 cgZ2 cgZ3 cgZ4 hq
                go_wp2
                go_ret
                exact ⟨by simp, d9⟩
end Go.Proofs.YticjofjghpdmpabDoor
