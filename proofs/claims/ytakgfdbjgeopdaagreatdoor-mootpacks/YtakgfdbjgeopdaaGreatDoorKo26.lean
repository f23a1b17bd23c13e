/-
  The walks of a window that is raised, and of a window with a number that is met.
-/
import Derived.Laws.CopyOwn
import Derived.Deep.RegionLaw
import Derived.Deep.Cut
import Derived.Test.YtakgfdbjgeopdaaGreatDoorKo23
import Derived.Test.YtakgfdbjgeopdaaGreatDoorKo25
namespace Go.Proofs.YtakgfdbjgeopdaaGreatDoor
open Go.RowKit
set_option linter.unusedVariables false

theorem info4s : (Tryz.prog.info? 4).map (·.size) = some 1 := by kernel_rfl
theorem size4w (w : World) : (Go.sizeOf 4).run Tryz.prog w = .ok 1 w := by
  have h := info4s
  cases hi : Tryz.prog.info? 4 with
  | none => rw [hi] at h; cases h
  | some i =>
    rw [hi] at h
    simp only [Option.map_some, Option.some.injEq] at h
    simp [sizeOf, typeInfo, hi, h]
set_option maxRecDepth 100000 in
theorem arr_from (B d : Nat) (hd : d ≤ 8) : ∃ ad, (∀ W, (Instr.sliceAt 53 (.pointer (some ⟨B, 1, none⟩)) (some (.int .i64 (d : Int))) none none).run Tryz.prog W = .ok (.slice (some ad) (8 - d) (8 - d)) W) ∧ (0 < 8 - d → ad = ⟨B, 1 + d, none⟩) := by
  refine ⟨if 8 = d then ⟨B, 1, none⟩ else (⟨B, 1, none⟩ : Addr).add (d * 1), fun W => ?_, fun h => ?_⟩
  · have e1 : Tryz.prog.arrayLen 53 = 8 := by kernel_rfl
    have e2 : Tryz.prog.elem 53 = 4 := by kernel_rfl
    rw [run_sliceAt_array_l (P := Tryz.prog) W 53 _ Tryz.underlying53 .i64 _ (by omega) (by rw [e1]; omega), e1, e2, size4w]
    simp [Result.andThen, slicedAt]
  · rw [if_neg (by omega), Nat.mul_one]
    exact Addr.add_mid B 1 d

theorem heap3 (w : World) (a b c : Obj) : (((w.alloc a).alloc b).alloc c).heap[w.heap.size]? = some a ∧ (((w.alloc a).alloc b).alloc c).heap[w.heap.size + 1]? = some b ∧ (((w.alloc a).alloc b).alloc c).heap[w.heap.size + 1 + 1]? = some c := by
  have hb : Below ((w.alloc a).alloc b).heap.size ((w.alloc a).alloc b) (((w.alloc a).alloc b).alloc c) := (Below.refl _ _).alloc (Nat.le_refl _) _
  have hz : ((w.alloc a).alloc b).heap.size = w.heap.size + 1 + 1 := by simp
  have h2 := heap_alloc_new ((w.alloc a).alloc b) c
  rw [hz] at h2 hb
  exact ⟨(hb.block _ (by omega)).trans (heap_alloc2_old _ _ _), (hb.block _ (by omega)).trans (heap_alloc2_new _ _ _), h2⟩
theorem noB8 : noB = [false, false, false, false, false, false, false, false] := rfl
theorem wA_splice (n : Int) (l : List Bool) (hl : l.length = 8) (d : Nat) (h1 : 1 ≤ d) (h8 : d ≤ 8) : (splice [.int .i64 n, .bool false, .bool false, .bool false, .bool false, .bool false, .bool false, .bool false, .bool false] 1 ((l.drop d).map Value.bool)).toArray = wA n (l.drop d ++ List.replicate d false) := by
  obtain ⟨b0, b1, b2, b3, b4, b5, b6, b7, rfl⟩ := eight l hl
  have : d = 1 ∨ d = 2 ∨ d = 3 ∨ d = 4 ∨ d = 5 ∨ d = 6 ∨ d = 7 ∨ d = 8 := by omega
  rcases this with rfl | rfl | rfl | rfl | rfl | rfl | rfl | rfl <;> rfl

set_option maxHeartbeats 1000000 in
set_option maxRecDepth 100000 in
theorem raised_any (t n : Int) (l : List Bool) (w : World) (hl : l.length = 8) (t0 : 0 ≤ t) (t1 : t ≤ 1073741824) (n0 : t < n) (n1 : n ≤ 1073741824) (d : Nat) (hd : d = min (n - t).toNat 8) :
    Calls Tryz.prog 199 #[.agg (wA t l), .int .i64 n] w fun e w' => e = .returned (.agg (wA n (l.drop d ++ List.replicate d false))) ∧ Below w.heap.size w w' := by
  obtain ⟨b0, b1, b2, b3, b4, b5, b6, b7, rfl⟩ := eight l hl
  simp only [wA, List.map]
  go_enter Tryz.func199, Tryz.ntmps199
  have hm : (if 8 < n - t then 8 else n - t) = (d : Int) := by split <;> omega
  have hwr : IntKind.i64.wrap (n - t) = n - t := by rw [IntKind.wrap_i64]; omega
  have hdz : 1 ≤ d ∧ d ≤ 8 := by omega
  obtain ⟨ad, hsl, had⟩ := arr_from w.heap.size d (by omega)
  clear hd
  have HR : Hid (∀ w' : World, Below (w.heap.size + 1 + 1) (((w.alloc (.cells (wA t [b0, b1, b2, b3, b4, b5, b6, b7]) 190)).alloc (.cells (wA 0 [false, false, false, false, false, false, false, false]) 190)).alloc (.cells (wA n [false, false, false, false, false, false, false, false]) 190)).drew w' → Below w.heap.size w w' ∧ w'.heap[w.heap.size + 1]? = some (.cells (wA 0 [false, false, false, false, false, false, false, false]) 190 (0, 0))) := by
    intro w' hb
    obtain ⟨_, e1, _⟩ := heap3 w (.cells (wA t [b0, b1, b2, b3, b4, b5, b6, b7]) 190) (.cells (wA 0 [false, false, false, false, false, false, false, false]) 190) (.cells (wA n [false, false, false, false, false, false, false, false]) 190)
    refine ⟨((((Below.refl _ _).alloc (Nat.le_refl _) _).alloc (by simp) _).alloc (by simp; omega) _).drew.trans (hb.mono (by omega)), ?_⟩
    exact (hb.block (w.heap.size + 1) (by omega)).trans e1
  have HC : Hid (∀ j v, (([b0, b1, b2, b3, b4, b5, b6, b7].drop d).map Value.bool)[j]? = some v → (((w.alloc (.cells (wA t [b0, b1, b2, b3, b4, b5, b6, b7]) 190)).alloc (.cells (wA 0 [false, false, false, false, false, false, false, false]) 190)).alloc (.cells (wA n [false, false, false, false, false, false, false, false]) 190)).drew.cell? (ad.add j) = some v) := by
    intro j v hj
    have hjl : j < 8 - d := by simpa using (List.getElem?_eq_some_iff.1 hj).1
    rw [had (by omega), Addr.add_mid]
    obtain ⟨e0, _, _⟩ := heap3 w (.cells (wA t [b0, b1, b2, b3, b4, b5, b6, b7]) 190) (.cells (wA 0 [false, false, false, false, false, false, false, false]) 190) (.cells (wA n [false, false, false, false, false, false, false, false]) 190)
    have h1 := (cell_of_row _ _ (1 + (d + j)) _ _ _ e0).trans (wA_seen t _ (d + j) (by simp; omega))
    rw [Nat.add_assoc]
    refine Eq.trans h1 ?_
    rw [List.getElem?_map, List.getElem?_drop] at hj
    rw [← hj, List.getD, List.getElem?_eq_getElem (show d + j < [b0, b1, b2, b3, b4, b5, b6, b7].length by simp; omega)]
    rfl
  obtain ⟨_, _, e2⟩ := heap3 w (.cells (wA t [b0, b1, b2, b3, b4, b5, b6, b7]) 190) (.cells (wA 0 [false, false, false, false, false, false, false, false]) 190) (.cells (wA n [false, false, false, false, false, false, false, false]) 190)
  have HG : Hid _ := e2
  clear e2
  go_wp2_with fail
  go_region_law (refine step_copy_splice rfl (.tmp 9) (.tmp 16) 279 279 rfl 4 Tryz.underlying279 info4s _ _ _ _ _ _ rfl rfl (w.heap.size + 1 + 1) 1 [.int .i64 n, .bool false, .bool false, .bool false, .bool false, .bool false, .bool false, .bool false, .bool false] 190 HG.out (([b0, b1, b2, b3, b4, b5, b6, b7].drop d).map Value.bool) (by simp) (fun hp => ⟨rfl, ad, rfl, HC.out⟩) (by simp; omega) (by intro v hv; obtain ⟨x, _, rfl⟩ := List.mem_map.1 hv; rfl) (w.heap.size + 1 + 1) _ (Below.refl _ _) (Nat.le_refl _) ?_; intro w4 H4 hb4)
  obtain ⟨d4, r4⟩ := HR.out w4 hb4
  have hl8 : ([b0, b1, b2, b3, b4, b5, b6, b7].drop d ++ List.replicate d false).length = 8 := by simp; omega
  have h4 := H4.out
  rw [wA_splice n _ rfl d hdz.1 hdz.2] at h4
  generalize hR : [b0, b1, b2, b3, b4, b5, b6, b7].drop d ++ List.replicate d false = R at hl8 h4
  have HRR : Hid ([b0, b1, b2, b3, b4, b5, b6, b7].drop d ++ List.replicate d false = R) := hR
  clear hR
  have hi := wInfo (t := n) hl8
  have hz := (Array.getElem?_eq_some_iff.1 h4).1
  clear HR HC HG hb4 H4
  go_wp2_with (first
    | (refine wpList_load_row rfl 190 _ rfl (w.heap.size + 1 + 1) rfl 190 _ (0, 0) _ h4 Tryz.underlying190 rfl hi ?_)
    | (refine wpList_store_row rfl 190 _ _ rfl (w.heap.size + 1) _ rfl rfl 190 _ r4 hi (by rw [wA_size, wA_size, hl8]; rfl) (wA_one n R) ?_))
  exact bodyPost_ret (v := .agg (wA n R)) (results_cell_row rfl _ _ (w.heap.size + 1) 190 _ (0, 0) _ rfl (setRow_heap w4 (w.heap.size + 1) _ _ 190 _ r4) Tryz.underlying190 rfl hi) rfl ⟨by rw [← HRR.out]; rfl, below_setRow d4 (by omega) _⟩

theorem wA_set (t : Int) (l : List Bool) (i : Nat) (x : Bool) : (wA t l).setIfInBounds (1 + i) (.bool x) = wA t (l.set i x) := by
  apply Array.ext'
  rw [Nat.add_comm]
  simp [wA, List.map_set]
theorem wA_store {w : World} {g : Nat} {t : Int} {l : List Bool} {ty : TypeId} (h : w.heap[g]? = some (.cells (wA t l) ty (0, 0))) (k : Nat) (x : Bool) :
    (w.setCell ⟨g, 1 + k, none⟩ (.bool x)).heap[g]? = some (.cells (wA t (l.set k x)) ty (0, 0)) := by
  rw [heap_setCell_same _ _ _ _ _ _ h, wA_set]
theorem list_eq8 {a b : List Bool} (ha : a.length = 8) (hb : b.length = 8) (h : ∀ k, k < 8 → a.getD k false = b.getD k false) : a = b := by
  apply List.ext_getElem (by omega)
  intro k h1 h2
  have := h k (by omega)
  simpa [List.getD, List.getElem?_eq_getElem h1, List.getElem?_eq_getElem h2] using this
theorem set_getD (l : List Bool) (i k : Nat) (x : Bool) (hi : i < l.length) : (l.set i x).getD k false = if k = i then x else l.getD k false := by
  rw [List.getD, List.getElem?_set, List.getD]
  by_cases h : i = k
  · subst h; simp [hi]
  · rw [if_neg h, if_neg (fun e => h e.symm)]
theorem takS_low (t n : Int) (l : List Bool) (hl : l.length = 8) (h1 : n < t) (i : Nat) (hi : i < 8) (hn : n = t - 8 + (i : Int)) : takS t l n = l.set i true ∧ takT t n = t := by
  have hT : takT t n = t := by unfold takT; rw [if_neg (by omega)]
  refine ⟨list_eq8 (takS_length _ _ _) (by simp [hl]) fun k hk => ?_, hT⟩
  rw [takS_at _ _ _ _ hk, hT, metB_at t l k hk, set_getD _ _ _ _ (by omega)]
  by_cases h : k = i
  · rw [if_pos h, decide_eq_true (by omega)]; rfl
  · rw [if_neg h, decide_eq_false (by omega)]; rfl
theorem raise_getD (l : List Bool) (hl : l.length = 8) (d k : Nat) (hk : k < 8) (hd : d ≤ 8) : (l.drop d ++ List.replicate d false).getD k false = if d + k < 8 then l.getD (d + k) false else false := by
  by_cases h : d + k < 8
  · rw [if_pos h, List.getD, List.getElem?_append_left (by simp; omega), List.getElem?_drop, List.getD]
  · rw [if_neg h, List.getD, List.getElem?_append_right (by simp; omega), List.getElem?_replicate]
    split <;> rfl
theorem takS_high (t n : Int) (l : List Bool) (hl : l.length = 8) (h1 : t ≤ n) (d : Nat) (hd : d = min (n + 1 - t).toNat 8) : takS t l n = (l.drop d ++ List.replicate d false).set 7 true ∧ takT t n = n + 1 := by
  have hT : takT t n = n + 1 := by unfold takT; rw [if_pos h1]
  refine ⟨list_eq8 (takS_length _ _ _) (by simp; omega) fun k hk => ?_, hT⟩
  rw [takS_at _ _ _ _ hk, hT, set_getD _ _ _ _ (by simp; omega), raise_getD l hl d k hk (by omega)]
  by_cases h : k = 7
  · rw [if_pos h, decide_eq_true (by omega)]; rfl
  · rw [if_neg h, decide_eq_false (by omega), Bool.false_or]
    by_cases h2 : d + k < 8
    · rw [if_pos h2, show n + 1 - 8 + (k : Int) = t - 8 + ((d + k : Nat) : Int) by omega, metB_at _ _ _ h2]
    · rw [if_neg h2, metB_ge (by omega)]
end Go.Proofs.YtakgfdbjgeopdaaGreatDoor
/-
  The walk of a window with a number that is met.
-/
namespace Go.Proofs.YtakgfdbjgeopdaaGreatDoor
open Go.RowKit
set_option linter.unusedVariables false

set_option maxHeartbeats 1000000 in
set_option maxRecDepth 100000 in
theorem with_any (t n : Int) (l : List Bool) (w : World) (hl : l.length = 8) (t0 : 0 ≤ t) (t1 : t ≤ 1073741824) (n0 : t - 8 ≤ n) (n2 : 0 ≤ n) (n1 : n < 1073741824) :
    Calls Tryz.prog 146 #[.agg (wA t l), .int .i64 n] w fun e w' => e = .returned (.agg (wA (takT t n) (takS t l n))) ∧ Below w.heap.size w w' := by
  have e0 : ((w.alloc (.cells (wA t l) 190)).alloc (.cells (wA 0 noB) 190)).heap[w.heap.size]? = some (.cells (wA t l) 190 (0, 0)) := heap_alloc2_old _ _ _
  have e1 : ((w.alloc (.cells (wA t l) 190)).alloc (.cells (wA 0 noB) 190)).heap[w.heap.size + 1]? = some (.cells (wA 0 noB) 190 (0, 0)) := heap_alloc2_new _ _ _
  have bb : Below w.heap.size w ((w.alloc (.cells (wA t l) 190)).alloc (.cells (wA 0 noB) 190)) := ((Below.refl _ _).alloc (Nat.le_refl _) _).alloc (by simp) _
  have hz : ((w.alloc (.cells (wA t l) 190)).alloc (.cells (wA 0 noB) 190)).heap.size = w.heap.size + 1 + 1 := by simp
  have hiT := wInfo (t := t) hl
  have ct := (cell_of_row _ _ 0 _ _ _ e0).trans (wA_top t l)
  by_cases h1 : t ≤ n
  · obtain ⟨d, hd⟩ : ∃ d, d = min (n + 1 - t).toNat 8 := ⟨_, rfl⟩
    obtain ⟨HS', HT'⟩ := takS_high t n l hl h1 d hd
    have HS : Hid _ := HS'
    have HT : Hid (takT t n = n + 1) := HT'
    clear HS' HT'
    have hRl : (l.drop d ++ List.replicate d false).length = 8 := by simp; omega
    have HD : Hid (d = min (n + 1 - t).toNat 8) := hd
    clear hd
    go_enter Tryz.func146, Tryz.ntmps146
    go_upto_region 1 with fail
    generalize hWW : ((w.alloc (.cells (wA t l) 190)).alloc (.cells (wA 0 noB) 190)) = W at e0 e1 bb hz ct
    refine (congrArg (Code.wp _ _ _ _) hWW).mpr ?_
    clear hWW
    go_wp2_with (refine wpList_load_row rfl 190 _ rfl w.heap.size rfl 190 _ (0, 0) _ e0 Tryz.underlying190 rfl hiT ?_)
    refine (raised_any t (n + 1) l W hl t0 t1 (by omega) (by omega) d HD.out).mono ?_
    rintro e w1 ⟨rfl, b1⟩
    generalize l.drop d ++ List.replicate d false = R at HS hRl
    have a0 := (b1.block w.heap.size (by omega)).trans e0
    have a1 := (b1.block (w.heap.size + 1) (by omega)).trans e1
    have bd1 : Below w.heap.size w w1 := bb.trans (b1.mono (by omega))
    have hz1 : w.heap.size + 1 + 1 ≤ w1.heap.size := by have := b1.size; omega
    have hiR := wInfo (t := n + 1) hRl
    go_upto_region 3 with (refine wpList_store_row rfl 190 _ _ rfl w.heap.size _ rfl rfl 190 _ a0 hiR (by rw [wA_size, wA_size, hRl, hl]) (wA_one _ _) ?_)
    have f0 := setRow_heap w1 w.heap.size _ (wA (n + 1) R) 190 _ a0
    have f1 := (setRow_other w1 w.heap.size (w.heap.size + 1) (wA (n + 1) R) (by omega)).trans a1
    have bd2 : Below w.heap.size w (w1.setRow w.heap.size (wA (n + 1) R)) := below_setRow bd1 (Nat.le_refl _) _
    have hz2 : w.heap.size + 1 + 1 ≤ (w1.setRow w.heap.size (wA (n + 1) R)).heap.size := by have := (Array.getElem?_eq_some_iff.1 f1).1; omega
    generalize w1.setRow w.heap.size (wA (n + 1) R) = W2 at f0 f1 bd2 hz2 ⊢
    clear a0 a1 bd1 b1 e0 e1 bb ct hz hz1
    have hTb : n + 1 ≤ 1073741824 := by omega
    obtain ⟨i, hi, hni⟩ : ∃ i : Nat, i < 8 ∧ n - (n + 1 - 8) = (i : Int) := ⟨7, by omega, by omega⟩
    have HS2 : Hid (takS t l n = R.set i true) := by unfold Hid; rw [show i = 7 by omega]; exact HS.out
    clear HS
    have HS := HS2
    clear HS2
    have hTl : 0 ≤ n + 1 := by omega
    generalize n + 1 = T at HT f0 hTb hni hTl hiR
    go_wp2_with (refine wpList_load_row rfl 190 _ rfl w.heap.size rfl 190 _ (0, 0) _ f0 Tryz.underlying190 rfl (wInfo hRl) ?_)
    refine (lowest_any T R W2 hRl (by omega) (by omega)).mono ?_
    rintro e w3 ⟨rfl, b3⟩
    have g0 := (b3.block w.heap.size (by omega)).trans f0
    have g1 := (b3.block (w.heap.size + 1) (by omega)).trans f1
    have bd3 : Below w.heap.size w w3 := bd2.trans (b3.mono (by omega))
    have hz3 : w.heap.size + 1 < w3.heap.size := by have := b3.size; omega
    have ci := (cell_of_row _ _ (1 + i) _ _ _ g0).trans (wA_seen T R i (by omega))
    have fi := frozen_of_row _ _ (1 + i) _ _ g0
    have h0 := wA_store g0 i true
    have h1' : (w3.setCell ⟨w.heap.size, 1 + i, none⟩ (.bool true)).heap[w.heap.size + 1]? = some (.cells (wA 0 noB) 190 (0, 0)) := (heap_setCell_other _ _ _ _ (by simp)).trans g1
    have bd4 : Below w.heap.size w (w3.setCell ⟨w.heap.size, 1 + i, none⟩ (.bool true)) := bd3.setCell (p := ⟨w.heap.size, 1 + i, none⟩) (by simp) _
    have hsl : (R.set i true).length = 8 := by rw [List.length_set]; exact hRl
    have hw4 := wInfo (t := T) hsl
    have hii : (i : Int) < 8 := by omega
    generalize R.getD i false = c at ci
    clear f0 f1 g0 g1 b3 bd2 bd3
    go_wp2_with (first
      | (refine wpList_load_row rfl 190 _ rfl w.heap.size rfl 190 _ (0, 0) _ h0 Tryz.underlying190 rfl hw4 ?_)
      | (refine wpList_store_row rfl 190 _ _ rfl (w.heap.size + 1) _ rfl rfl 190 _ h1' hw4 (by rw [wA_size, wA_size, hsl]; rfl) (wA_one _ _) ?_))
    exact bodyPost_ret (v := .agg (wA T (R.set i true))) (results_cell_row rfl _ _ (w.heap.size + 1) 190 _ (0, 0) _ rfl (setRow_heap _ (w.heap.size + 1) _ _ 190 _ h1') Tryz.underlying190 rfl hw4) rfl ⟨by rw [HS.out, HT.out], below_setRow bd4 (by omega) _⟩
  · obtain ⟨i, hi, hni⟩ : ∃ i : Nat, i < 8 ∧ n - (t - 8) = (i : Int) := ⟨(n - (t - 8)).toNat, by omega, by omega⟩
    obtain ⟨HS', HT'⟩ := takS_low t n l hl (by omega) i hi (by omega)
    have HS : Hid (takS t l n = l.set i true) := HS'
    have HT : Hid (takT t n = t) := HT'
    clear HS' HT'
    go_enter Tryz.func146, Tryz.ntmps146
    go_upto_region 1 with fail
    generalize hWW : ((w.alloc (.cells (wA t l) 190)).alloc (.cells (wA 0 noB) 190)) = W at e0 e1 bb hz ct
    refine (congrArg (Code.wp _ _ _ _) hWW).mpr ?_
    clear hWW
    go_wp2_with (refine wpList_load_row rfl 190 _ rfl w.heap.size rfl 190 _ (0, 0) _ e0 Tryz.underlying190 rfl (wInfo hl) ?_)
    refine (lowest_any t l W hl (by omega) (by omega)).mono ?_
    rintro e w3 ⟨rfl, b3⟩
    have g0 := (b3.block w.heap.size (by omega)).trans e0
    have g1 := (b3.block (w.heap.size + 1) (by omega)).trans e1
    have bd3 : Below w.heap.size w w3 := bb.trans (b3.mono (by omega))
    have hz3 : w.heap.size + 1 < w3.heap.size := by have := b3.size; omega
    have ci := (cell_of_row _ _ (1 + i) _ _ _ g0).trans (wA_seen t l i (by omega))
    have fi := frozen_of_row _ _ (1 + i) _ _ g0
    have h0 := wA_store g0 i true
    have h1' : (w3.setCell ⟨w.heap.size, 1 + i, none⟩ (.bool true)).heap[w.heap.size + 1]? = some (.cells (wA 0 noB) 190 (0, 0)) := (heap_setCell_other _ _ _ _ (by simp)).trans g1
    have bd4 : Below w.heap.size w (w3.setCell ⟨w.heap.size, 1 + i, none⟩ (.bool true)) := bd3.setCell (p := ⟨w.heap.size, 1 + i, none⟩) (by simp) _
    have hsl : (l.set i true).length = 8 := by rw [List.length_set]; exact hl
    have hw4 := wInfo (t := t) hsl
    have hii : (i : Int) < 8 := by omega
    generalize l.getD i false = c at ci
    clear e0 e1 g0 g1 b3 bb bd3
    go_wp2_with (first
      | (refine wpList_load_row rfl 190 _ rfl w.heap.size rfl 190 _ (0, 0) _ h0 Tryz.underlying190 rfl hw4 ?_)
      | (refine wpList_store_row rfl 190 _ _ rfl (w.heap.size + 1) _ rfl rfl 190 _ h1' hw4 (by rw [wA_size, wA_size, hsl]; rfl) (wA_one _ _) ?_))
    exact bodyPost_ret (v := .agg (wA t (l.set i true))) (results_cell_row rfl _ _ (w.heap.size + 1) 190 _ (0, 0) _ rfl (setRow_heap _ (w.heap.size + 1) _ _ 190 _ h1') Tryz.underlying190 rfl hw4) rfl ⟨by rw [HS.out, HT.out], below_setRow bd4 (by omega) _⟩
end Go.Proofs.YtakgfdbjgeopdaaGreatDoor
/-
  The walk of the bytes of a record that is taken.
-/
namespace Go.Proofs.YtakgfdbjgeopdaaGreatDoor
open Go.RowKit
set_option linter.unusedVariables false

/-- what taking hands out -/
def TakeR (w' : World) (v' : Value) (n' : Int) (key : List Int) (s t : Int) (l : List Bool) (r : List Int) : Prop := takeE key s t l r = 0 → n' = numL (r.take 4) ∧ Sl w' v' (takeL key r)
theorem TakeR.no {w' : World} {v' : Value} {n' : Int} {key : List Int} {s t : Int} {l : List Bool} {r : List Int} {E : Int} (h : takeE key s t l r = E) (hE : E ≠ 0) : TakeR w' v' n' key s t l r := fun h0 => absurd (h.symm.trans h0) hE

set_option maxHeartbeats 4000000 in
set_option maxRecDepth 100000 in
theorem taken_any (vk : Value) (key : List Int) (s t : Int) (l : List Bool) (vr : Value) (r : List Int) (w : World) (hk : Sl w vk key) (hl : l.length = 8) (hr : Sl w vr r) (ht : QTab w) :
    Calls Tryz.prog 145 #[.agg (chA vk s t l), vr] w fun e w' => ∃ v', ∃ n', e = .returned (.tuple #[v', .int .i64 n', .int .i64 (takeE key s t l r)]) ∧ TakeR w' v' n' key s t l r ∧ Below w.heap.size w w' := by
  have hpos := ht.pos
  have bx := Bx.new w vk s t l
  obtain ⟨ar, cr, rfl⟩ := hr.shape
  have hrl := hr.len
  have hi := chInfo (k := vk) (s := s) (t := t) hl
  by_cases hok : OkC key s t l
  · have HC : Hid (checkE key s t l = 0) := checkE_ok hok
    go_enter Tryz.func145, Tryz.ntmps145
    go_wp2_with (refine wpList_load_row rfl 55 _ rfl w.heap.size rfl 55 _ (0, 0) _ bx.row Tryz.underlying55 rfl hi ?_)
    refine (check_any vk key s t l _ (hk.below bx.bel) hl).mono ?_
    rintro e w1 ⟨rfl, b1⟩
    replace bx := bx.step b1
    rw [HC.out]
    clear b1
    by_cases h2 : 2020 < r.length
    · have HE : Hid (takeE key s t l r = 1) := by unfold Hid takeE; rw [if_neg (fun h => h hok), if_pos h2]
      have h2' : (2020 : Int) < (r.length : Int) := by omega
      go_wp2
      go_ret3
      exact ⟨.slice none 0 0, 0, by rw [HE.out]; rfl, TakeR.no HE.out (by decide), bx.bel⟩
    · have h2' : ¬ (2020 : Int) < (r.length : Int) := by omega
      by_cases h3 : r.length < 20
      · have HE : Hid (takeE key s t l r = 13) := by unfold Hid takeE; rw [if_neg (fun h => h hok), if_neg h2, if_pos h3]
        have h3' : (r.length : Int) < 20 := by omega
        go_wp2
        go_ret3
        exact ⟨.slice none 0 0, 0, by rw [HE.out]; rfl, TakeR.no HE.out (by decide), bx.bel⟩
      · have h3' : ¬ (r.length : Int) < 20 := by omega
        go_wp2_with fail
        refine (cut_any _ r w1 (hr.below bx.bel) (by omega)).mono ?_
        rintro e w2 ⟨vh, vd, rfl, sh, sd, b2⟩
        replace bx := bx.step b2
        have hhl : (r.take 4).length = 4 := by rw [List.length_take]; omega
        have hdl : (r.drop 4).length = r.length - 4 := by rw [List.length_drop]
        obtain ⟨H, hH⟩ : ∃ H, r.take 4 = H := ⟨_, rfl⟩
        obtain ⟨D, hD⟩ : ∃ D, r.drop 4 = D := ⟨_, rfl⟩
        have HH : Hid (r.take 4 = H) := hH
        have HD : Hid (r.drop 4 = D) := hD
        rw [hH] at sh hhl
        rw [hD] at sd hdl
        have nr := numL_range hhl sh.byte
        have HT : Hid (takeE key s t l r = if 1073741824 ≤ numL H then 2 else if oldB t l (numL H) = true then 7 else openE key (nonceL H) H D) := by
          unfold Hid takeE
          rw [if_neg (fun h => h hok), if_neg h2, if_neg h3, hH, hD]
        have HTL : Hid (takeL key r = openL key (nonceL H) H D) := by unfold Hid takeL; rw [hH, hD]
        clear hH hD b2
        go_wp2_with fail
        refine (numberOf_any vh H w2 sh hhl).mono ?_
        rintro e w2' ⟨rfl, rfl⟩
        generalize hN : numL H = N at HT nr
        have HN : Hid (numL H = N) := hN
        clear hN
        by_cases h4 : 1073741824 ≤ N
        · have HE : Hid (takeE key s t l r = 2) := by unfold Hid; rw [HT.out, if_pos h4]
          go_wp2
          go_ret3
          exact ⟨.slice none 0 0, 0, by rw [HE.out]; rfl, TakeR.no HE.out (by decide), bx.bel⟩
        · go_wp2_with (refine wpList_load_row rfl 55 _ rfl w.heap.size rfl 55 _ (0, 0) _ bx.row Tryz.underlying55 rfl hi ?_)
          refine (windowOf_any vk s t l w2' hl).mono ?_
          rintro e w3 ⟨rfl, b3⟩
          replace bx := bx.step b3
          replace sh := sh.below b3
          replace sd := sd.below b3
          have n0 := nr.1
          have n1 : N < 1073741824 := by omega
          clear b3
          go_wp2_with fail
          refine (isOld_any t N l w3 hl hok.t0 hok.t1 n0 n1).mono ?_
          rintro e w4 ⟨rfl, b4⟩
          replace bx := bx.step b4
          replace sh := sh.below b4
          replace sd := sd.below b4
          clear b4
          cases h5 : oldB t l N with
          | true =>
            have HE : Hid (takeE key s t l r = 7) := by unfold Hid; rw [HT.out, if_neg (show ¬ 1073741824 ≤ N by omega), h5, if_pos rfl]
            clear h5
            go_wp2
            go_ret3
            exact ⟨.slice none 0 0, 0, by rw [HE.out]; rfl, TakeR.no HE.out (by decide), bx.bel⟩
          | false =>
            have HE : Hid (takeE key s t l r = openE key (nonceL H) H D) := by unfold Hid; rw [HT.out, if_neg (show ¬ 1073741824 ≤ N by omega), h5, if_neg (by simp)]
            have hk2 := hk.below bx.bel
            have ht2 := ht.below hpos bx.bel
            have hpos2 : 4 < w4.heap.size := by have := bx.lt; omega
            have c0 := bx.c0
            have bel2 := bx.bel
            have hd : Below w4.heap.size w4 w4.drew := (Below.refl _ _).drew
            have hzz : w.heap.size < w4.drew.heap.size := bx.lt
            clear h5 hk hr ht hok
            go_wp2_with fail
            go_region_with (first
              | (go_at_call 90; refine (nonceOf_any _ H _ (sh.below hd) hhl).mono ?_; rintro e w5 ⟨vn, rfl, sn, b5⟩; have c5 := (b5.cell (p := ⟨w.heap.size, 0, none⟩) hzz).trans c0)
              | (go_at_call 198; refine (open_any vk vn _ _ key (nonceL H) H D _ ((hk2.below hd).below b5) sn ((sh.below hd).below b5) ((sd.below hd).below b5) ((ht2.below hpos2 hd).below hpos2 b5)).mono ?_; rintro e w6 ⟨vx, rfl, sx, b6⟩))
            all_goals
              have d5 : Below w.heap.size w w5 := bel2.trans ((hd.trans b5).mono bel2.size)
              have d6 : Below w.heap.size w w6 := d5.trans (b6.mono d5.size)
              clear bx sh sd hk2 ht2 hd c0 c5 sn b5 b6 hzz bel2
              generalize openE key (nonceL H) H D = E at HE
              generalize openL key (nonceL H) H D = X at HTL sx
              go_wp2
              go_ret3
              exact ⟨vx, N, by rw [HE.out]; rfl, fun _ => ⟨by rw [HH.out, HN.out], by rw [HTL.out]; exact sx⟩, d6⟩
  · have HC : Hid (checkE key s t l = 5) := checkE_no hok
    have HE : Hid (takeE key s t l r = 5) := if_pos hok
    go_enter Tryz.func145, Tryz.ntmps145
    go_wp2_with (refine wpList_load_row rfl 55 _ rfl w.heap.size rfl 55 _ (0, 0) _ bx.row Tryz.underlying55 rfl hi ?_)
    refine (check_any vk key s t l _ (hk.below bx.bel) hl).mono ?_
    rintro e w1 ⟨rfl, b1⟩
    replace bx := bx.step b1
    rw [HC.out]
    go_wp2
    go_ret3
    exact ⟨.slice none 0 0, 0, by rw [HE.out]; rfl, TakeR.no HE.out (by decide), bx.bel⟩
end Go.Proofs.YtakgfdbjgeopdaaGreatDoor
