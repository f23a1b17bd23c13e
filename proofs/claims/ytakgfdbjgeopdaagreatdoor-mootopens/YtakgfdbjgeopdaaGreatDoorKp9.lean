/-
  The walks of a window that is raised, and of a window with a number that is met.
-/
import Derived.Laws.CopyOwn
import Derived.Deep.RegionLaw
import Derived.BigQuiet
import Derived.Test.YtakgfdbjgeopdaaGreatDoorKp8
import Derived.Test.YtakgfdbjgeopdaaGreatDoorKp2
namespace Go.Proofs.YtakgfdbjgeopdaaGreatDoor
open Go.RowKit
set_option linter.unusedVariables false

theorem info4s : (Tryz.prog.info? 4).map (·.size) = some 1 := by kernel_rfl
theorem size4w (w : World) : (Go.sizeOf 4).run Tryz.prog w = .ok 1 w := by
  have h := info4s
  cases hi : Tryz.prog.info? 4 with
  | none => rw [hi] at h; cases h
  | some i =>
    rw [hi] at h
    simp only [Option.map_some, Option.some.injEq] at h
    simp [sizeOf, typeInfo, hi, h]
set_option maxRecDepth 100000 in
theorem arr_from (B d : Nat) (hd : d ≤ 8) : ∃ ad, (∀ W, (Instr.sliceAt 53 (.pointer (some ⟨B, 1, none⟩)) (some (.int .i64 (d : Int))) none none).run Tryz.prog W = .ok (.slice (some ad) (8 - d) (8 - d)) W) ∧ (0 < 8 - d → ad = ⟨B, 1 + d, none⟩) := by
  refine ⟨if 8 = d then ⟨B, 1, none⟩ else (⟨B, 1, none⟩ : Addr).add (d * 1), fun W => ?_, fun h => ?_⟩
  · have e1 : Tryz.prog.arrayLen 53 = 8 := by kernel_rfl
    have e2 : Tryz.prog.elem 53 = 4 := by kernel_rfl
    rw [run_sliceAt_array_l (P := Tryz.prog) W 53 _ Tryz.underlying53 .i64 _ (by omega) (by rw [e1]; omega), e1, e2, size4w]
    simp [Result.andThen, slicedAt]
  · rw [if_neg (by omega), Nat.mul_one]
    exact Addr.add_mid B 1 d

theorem heap3 (w : World) (a b c : Obj) : (((w.alloc a).alloc b).alloc c).heap[w.heap.size]? = some a ∧ (((w.alloc a).alloc b).alloc c).heap[w.heap.size + 1]? = some b ∧ (((w.alloc a).alloc b).alloc c).heap[w.heap.size + 1 + 1]? = some c := by
  have hb : Below ((w.alloc a).alloc b).heap.size ((w.alloc a).alloc b) (((w.alloc a).alloc b).alloc c) := (Below.refl _ _).alloc (Nat.le_refl _) _
  have hz : ((w.alloc a).alloc b).heap.size = w.heap.size + 1 + 1 := by simp
  have h2 := heap_alloc_new ((w.alloc a).alloc b) c
  rw [hz] at h2 hb
  exact ⟨(hb.block _ (by omega)).trans (heap_alloc2_old _ _ _), (hb.block _ (by omega)).trans (heap_alloc2_new _ _ _), h2⟩
theorem noB8 : noB = [false, false, false, false, false, false, false, false] := rfl
theorem wA_splice (n : Int) (l : List Bool) (hl : l.length = 8) (d : Nat) (h1 : 1 ≤ d) (h8 : d ≤ 8) : (splice [.int .i64 n, .bool false, .bool false, .bool false, .bool false, .bool false, .bool false, .bool false, .bool false] 1 ((l.drop d).map Value.bool)).toArray = wA n (l.drop d ++ List.replicate d false) := by
  obtain ⟨b0, b1, b2, b3, b4, b5, b6, b7, rfl⟩ := eight l hl
  have : d = 1 ∨ d = 2 ∨ d = 3 ∨ d = 4 ∨ d = 5 ∨ d = 6 ∨ d = 7 ∨ d = 8 := by omega
  rcases this with rfl | rfl | rfl | rfl | rfl | rfl | rfl | rfl <;> rfl

set_option maxHeartbeats 1000000 in
set_option maxRecDepth 100000 in
theorem raised_any (t n : Int) (l : List Bool) (w : World) (hl : l.length = 8) (t0 : 0 ≤ t) (t1 : t ≤ 1073741824) (n0 : t < n) (n1 : n ≤ 1073741824) (d : Nat) (hd : d = min (n - t).toNat 8) :
    Calls Tryz.prog 199 #[.agg (wA t l), .int .i64 n] w fun e w' => e = .returned (.agg (wA n (l.drop d ++ List.replicate d false))) ∧ Below w.heap.size w w' := by
  obtain ⟨b0, b1, b2, b3, b4, b5, b6, b7, rfl⟩ := eight l hl
  simp only [wA, List.map]
  go_enter Tryz.func199, Tryz.ntmps199
  have hm : (if 8 < n - t then 8 else n - t) = (d : Int) := by split <;> omega
  have hwr : IntKind.i64.wrap (n - t) = n - t := by rw [IntKind.wrap_i64]; omega
  have hdz : 1 ≤ d ∧ d ≤ 8 := by omega
  obtain ⟨ad, hsl, had⟩ := arr_from w.heap.size d (by omega)
  clear hd
  have HR : Hid (∀ w' : World, Below (w.heap.size + 1 + 1) (((w.alloc (.cells (wA t [b0, b1, b2, b3, b4, b5, b6, b7]) 190)).alloc (.cells (wA 0 [false, false, false, false, false, false, false, false]) 190)).alloc (.cells (wA n [false, false, false, false, false, false, false, false]) 190)).drew w' → Below w.heap.size w w' ∧ w'.heap[w.heap.size + 1]? = some (.cells (wA 0 [false, false, false, false, false, false, false, false]) 190 (0, 0))) := by
    intro w' hb
    obtain ⟨_, e1, _⟩ := heap3 w (.cells (wA t [b0, b1, b2, b3, b4, b5, b6, b7]) 190) (.cells (wA 0 [false, false, false, false, false, false, false, false]) 190) (.cells (wA n [false, false, false, false, false, false, false, false]) 190)
    refine ⟨((((Below.refl _ _).alloc (Nat.le_refl _) _).alloc (by simp) _).alloc (by simp; omega) _).drew.trans (hb.mono (by omega)), ?_⟩
    exact (hb.block (w.heap.size + 1) (by omega)).trans e1
  have HC : Hid (∀ j v, (([b0, b1, b2, b3, b4, b5, b6, b7].drop d).map Value.bool)[j]? = some v → (((w.alloc (.cells (wA t [b0, b1, b2, b3, b4, b5, b6, b7]) 190)).alloc (.cells (wA 0 [false, false, false, false, false, false, false, false]) 190)).alloc (.cells (wA n [false, false, false, false, false, false, false, false]) 190)).drew.cell? (ad.add j) = some v) := by
    intro j v hj
    have hjl : j < 8 - d := by simpa using (List.getElem?_eq_some_iff.1 hj).1
    rw [had (by omega), Addr.add_mid]
    obtain ⟨e0, _, _⟩ := heap3 w (.cells (wA t [b0, b1, b2, b3, b4, b5, b6, b7]) 190) (.cells (wA 0 [false, false, false, false, false, false, false, false]) 190) (.cells (wA n [false, false, false, false, false, false, false, false]) 190)
    have h1 := (cell_of_row _ _ (1 + (d + j)) _ _ _ e0).trans (wA_seen t _ (d + j) (by simp; omega))
    rw [Nat.add_assoc]
    refine Eq.trans h1 ?_
    rw [List.getElem?_map, List.getElem?_drop] at hj
    rw [← hj, List.getD, List.getElem?_eq_getElem (show d + j < [b0, b1, b2, b3, b4, b5, b6, b7].length by simp; omega)]
    rfl
  obtain ⟨_, _, e2⟩ := heap3 w (.cells (wA t [b0, b1, b2, b3, b4, b5, b6, b7]) 190) (.cells (wA 0 [false, false, false, false, false, false, false, false]) 190) (.cells (wA n [false, false, false, false, false, false, false, false]) 190)
  have HG : Hid _ := e2
  clear e2
  go_wp2_with fail
  go_region_law (refine step_copy_splice rfl (.tmp 9) (.tmp 16) 279 279 rfl 4 Tryz.underlying279 info4s _ _ _ _ _ _ rfl rfl (w.heap.size + 1 + 1) 1 [.int .i64 n, .bool false, .bool false, .bool false, .bool false, .bool false, .bool false, .bool false, .bool false] 190 HG.out (([b0, b1, b2, b3, b4, b5, b6, b7].drop d).map Value.bool) (by simp) (fun hp => ⟨rfl, ad, rfl, HC.out⟩) (by simp; omega) (by intro v hv; obtain ⟨x, _, rfl⟩ := List.mem_map.1 hv; rfl) (w.heap.size + 1 + 1) _ (Below.refl _ _) (Nat.le_refl _) ?_; intro w4 H4 hb4)
  obtain ⟨d4, r4⟩ := HR.out w4 hb4
  have hl8 : ([b0, b1, b2, b3, b4, b5, b6, b7].drop d ++ List.replicate d false).length = 8 := by simp; omega
  have h4 := H4.out
  rw [wA_splice n _ rfl d hdz.1 hdz.2] at h4
  generalize hR : [b0, b1, b2, b3, b4, b5, b6, b7].drop d ++ List.replicate d false = R at hl8 h4
  have HRR : Hid ([b0, b1, b2, b3, b4, b5, b6, b7].drop d ++ List.replicate d false = R) := hR
  clear hR
  have hi := wInfo (t := n) hl8
  have hz := (Array.getElem?_eq_some_iff.1 h4).1
  clear HR HC HG hb4 H4
  go_wp2_with (first
    | (refine wpList_load_row rfl 190 _ rfl (w.heap.size + 1 + 1) rfl 190 _ (0, 0) _ h4 Tryz.underlying190 rfl hi ?_)
    | (refine wpList_store_row rfl 190 _ _ rfl (w.heap.size + 1) _ rfl rfl 190 _ r4 hi (by rw [wA_size, wA_size, hl8]; rfl) (wA_one n R) ?_))
  exact bodyPost_ret (v := .agg (wA n R)) (results_cell_row rfl _ _ (w.heap.size + 1) 190 _ (0, 0) _ rfl (setRow_heap w4 (w.heap.size + 1) _ _ 190 _ r4) Tryz.underlying190 rfl hi) rfl ⟨by rw [← HRR.out]; rfl, below_setRow d4 (by omega) _⟩

theorem wA_set (t : Int) (l : List Bool) (i : Nat) (x : Bool) : (wA t l).setIfInBounds (1 + i) (.bool x) = wA t (l.set i x) := by
  apply Array.ext'
  rw [Nat.add_comm]
  simp [wA, List.map_set]
theorem wA_store {w : World} {g : Nat} {t : Int} {l : List Bool} {ty : TypeId} (h : w.heap[g]? = some (.cells (wA t l) ty (0, 0))) (k : Nat) (x : Bool) :
    (w.setCell ⟨g, 1 + k, none⟩ (.bool x)).heap[g]? = some (.cells (wA t (l.set k x)) ty (0, 0)) := by
  rw [heap_setCell_same _ _ _ _ _ _ h, wA_set]
theorem list_eq8 {a b : List Bool} (ha : a.length = 8) (hb : b.length = 8) (h : ∀ k, k < 8 → a.getD k false = b.getD k false) : a = b := by
  apply List.ext_getElem (by omega)
  intro k h1 h2
  have := h k (by omega)
  simpa [List.getD, List.getElem?_eq_getElem h1, List.getElem?_eq_getElem h2] using this
theorem set_getD (l : List Bool) (i k : Nat) (x : Bool) (hi : i < l.length) : (l.set i x).getD k false = if k = i then x else l.getD k false := by
  rw [List.getD, List.getElem?_set, List.getD]
  by_cases h : i = k
  · subst h; simp [hi]
  · rw [if_neg h, if_neg (fun e => h e.symm)]
theorem takS_low (t n : Int) (l : List Bool) (hl : l.length = 8) (h1 : n < t) (i : Nat) (hi : i < 8) (hn : n = t - 8 + (i : Int)) : takS t l n = l.set i true ∧ takT t n = t := by
  have hT : takT t n = t := by unfold takT; rw [if_neg (by omega)]
  refine ⟨list_eq8 (takS_length _ _ _) (by simp [hl]) fun k hk => ?_, hT⟩
  rw [takS_at _ _ _ _ hk, hT, metB_at t l k hk, set_getD _ _ _ _ (by omega)]
  by_cases h : k = i
  · rw [if_pos h, decide_eq_true (by omega)]; rfl
  · rw [if_neg h, decide_eq_false (by omega)]; rfl
theorem raise_getD (l : List Bool) (hl : l.length = 8) (d k : Nat) (hk : k < 8) (hd : d ≤ 8) : (l.drop d ++ List.replicate d false).getD k false = if d + k < 8 then l.getD (d + k) false else false := by
  by_cases h : d + k < 8
  · rw [if_pos h, List.getD, List.getElem?_append_left (by simp; omega), List.getElem?_drop, List.getD]
  · rw [if_neg h, List.getD, List.getElem?_append_right (by simp; omega), List.getElem?_replicate]
    split <;> rfl
theorem takS_high (t n : Int) (l : List Bool) (hl : l.length = 8) (h1 : t ≤ n) (d : Nat) (hd : d = min (n + 1 - t).toNat 8) : takS t l n = (l.drop d ++ List.replicate d false).set 7 true ∧ takT t n = n + 1 := by
  have hT : takT t n = n + 1 := by unfold takT; rw [if_pos h1]
  refine ⟨list_eq8 (takS_length _ _ _) (by simp; omega) fun k hk => ?_, hT⟩
  rw [takS_at _ _ _ _ hk, hT, set_getD _ _ _ _ (by simp; omega), raise_getD l hl d k hk (by omega)]
  by_cases h : k = 7
  · rw [if_pos h, decide_eq_true (by omega)]; rfl
  · rw [if_neg h, decide_eq_false (by omega), Bool.false_or]
    by_cases h2 : d + k < 8
    · rw [if_pos h2, show n + 1 - 8 + (k : Int) = t - 8 + ((d + k : Nat) : Int) by omega, metB_at _ _ _ h2]
    · rw [if_neg h2, metB_ge (by omega)]
end Go.Proofs.YtakgfdbjgeopdaaGreatDoor
/-
  Commands and tokens, in plain numbers: their cells, what may be, their bytes, and what a token allows. No program is named here.
-/
namespace Go.Proofs.YtakgfdbjgeopdaaGreatDoor
open Go.RowKit
set_option linter.unusedVariables false

/-- the cells of a command: kind, client, number, name, value -/
def cmA (k c s n v : Int) : Array Value := #[.int .i64 k, .int .i64 c, .int .i64 s, .int .i64 n, .int .i64 v]
/-- the cells of a token: client, rights, until -/
def tkA (c r u : Int) : Array Value := #[.int .i64 c, .int .i64 r, .int .i64 u]

/-- the numbers of a command that is no noop, within their bounds -/
def InC (c s n v : Int) : Prop := 0 ≤ c ∧ c ≤ 7 ∧ 0 ≤ s ∧ s ≤ 1048576 ∧ 0 ≤ n ∧ n ≤ 7 ∧ 0 ≤ v ∧ v ≤ 1073741824
instance (c s n v : Int) : Decidable (InC c s n v) := by unfold InC; exact inferInstance
/-- what is wrong with a command -/
def comE (k c s n v : Int) : Int :=
  if ¬ (0 ≤ k ∧ k ≤ 3) then 4
  else if k = 0 then (if c = 0 ∧ s = 0 ∧ n = 0 ∧ v = 0 then 0 else 3)
  else if ¬ InC c s n v then 2
  else if 1 < k ∧ v ≠ 0 then 3
  else 0
theorem comE_kind {k c s n v : Int} (h : ¬ (0 ≤ k ∧ k ≤ 3)) : comE k c s n v = 4 := if_pos h
theorem comE_noop {c s n v : Int} (h : c = 0 ∧ s = 0 ∧ n = 0 ∧ v = 0) : comE 0 c s n v = 0 := by
  unfold comE; rw [if_neg (by omega), if_pos rfl, if_pos h]
theorem comE_noopF {c s n v : Int} (h : ¬ (c = 0 ∧ s = 0 ∧ n = 0 ∧ v = 0)) : comE 0 c s n v = 3 := by
  unfold comE; rw [if_neg (by omega), if_pos rfl, if_neg h]
theorem comE_range {k c s n v : Int} (h : 1 ≤ k ∧ k ≤ 3) (hi : ¬ InC c s n v) : comE k c s n v = 2 := by
  unfold comE; rw [if_neg (by omega), if_neg (by omega), if_pos hi]
theorem comE_form {k c s n v : Int} (h : 2 ≤ k ∧ k ≤ 3) (hi : InC c s n v) (hv : v ≠ 0) : comE k c s n v = 3 := by
  unfold comE; rw [if_neg (by omega), if_neg (by omega), if_neg (fun g => g hi), if_pos ⟨by omega, hv⟩]
theorem comE_ok {k c s n v : Int} (h : 1 ≤ k ∧ k ≤ 3) (hi : InC c s n v) (hv : k = 1 ∨ v = 0) : comE k c s n v = 0 := by
  unfold comE; rw [if_neg (by omega), if_neg (by omega), if_neg (fun g => g hi), if_neg (by omega)]
/-- of a command that may be, all numbers are small -/
theorem comE_zero {k c s n v : Int} (h : comE k c s n v = 0) : (0 ≤ k ∧ k ≤ 3) ∧ InC c s n v := by
  unfold comE at h
  split at h
  · omega
  · rename_i h1
    split at h
    · split at h
      · rename_i h3
        exact ⟨by omega, by unfold InC; omega⟩
      · omega
    · split at h
      · omega
      · rename_i h3
        exact ⟨by omega, Classical.not_not.1 h3⟩
theorem comE_range4 (k c s n v : Int) : 0 ≤ comE k c s n v ∧ comE k c s n v ≤ 4 := by
  unfold comE
  repeat' split
  all_goals omega

/-- a command's bytes -/
def comL (k c s n v : Int) : List Int := headL k ++ headL c ++ headL s ++ headL n ++ headL v
theorem comL_length (k c s n v : Int) : (comL k c s n v).length = 20 := rfl
theorem comL_byte (k c s n v : Int) : ∀ x ∈ comL k c s n v, 0 ≤ x ∧ x < 256 := by
  intro x hx
  rcases List.mem_append.1 hx with hx | hx
  · rcases List.mem_append.1 hx with hx | hx
    · rcases List.mem_append.1 hx with hx | hx
      · rcases List.mem_append.1 hx with hx | hx
        · exact headL_byte _ x hx
        · exact headL_byte _ x hx
      · exact headL_byte _ x hx
    · exact headL_byte _ x hx
  · exact headL_byte _ x hx
/-- the number at a place of bytes -/
def numA (l : List Int) (i : Nat) : Int := 16777216 * l.getD i 0 + 65536 * l.getD (i + 1) 0 + 256 * l.getD (i + 2) 0 + l.getD (i + 3) 0
theorem numA_range {l : List Int} (hb : ∀ x ∈ l, 0 ≤ x ∧ x < 256) (i : Nat) : 0 ≤ numA l i ∧ numA l i < 4294967296 := by
  have h0 := getD_byte hb i
  have h1 := getD_byte hb (i + 1)
  have h2 := getD_byte hb (i + 2)
  have h3 := getD_byte hb (i + 3)
  unfold numA
  omega
/-- the bytes of a number that is read -/
theorem headL_numA {l : List Int} (hb : ∀ x ∈ l, 0 ≤ x ∧ x < 256) (i : Nat) : headL (numA l i) = [l.getD i 0, l.getD (i + 1) 0, l.getD (i + 2) 0, l.getD (i + 3) 0] := by
  have h0 := getD_byte hb i
  have h1 := getD_byte hb (i + 1)
  have h2 := getD_byte hb (i + 2)
  have h3 := getD_byte hb (i + 3)
  unfold headL numA
  congr 1
  · omega
  congr 1
  · omega
  congr 1
  · omega
  congr 1
  omega
theorem numA_headL (n : Int) (h0 : 0 ≤ n) (h1 : n < 4294967296) (l m : List Int) : numA (l ++ (headL n ++ m)) l.length = n := by
  have e : ∀ j, (l ++ (headL n ++ m)).getD (l.length + j) 0 = (headL n ++ m).getD j 0 := by
    intro j
    simp [List.getD, List.getElem?_append_right]
  unfold numA
  rw [show l.length = l.length + 0 from rfl, Nat.add_assoc, Nat.add_assoc, Nat.add_assoc, e, e, e, e]
  show 16777216 * (n / 16777216 % 256) + 65536 * (n / 65536 % 256) + 256 * (n / 256 % 256) + n % 256 = n
  omega
theorem numA_com0 (k c s n v : Int) (h0 : 0 ≤ k) (h1 : k < 4294967296) : numA (comL k c s n v) 0 = k := by
  have h := numA_headL k h0 h1 [] (headL c ++ headL s ++ headL n ++ headL v)
  exact h
theorem numA_com4 (k c s n v : Int) (h0 : 0 ≤ c) (h1 : c < 4294967296) : numA (comL k c s n v) 4 = c := by
  have h := numA_headL c h0 h1 (headL k) (headL s ++ headL n ++ headL v)
  exact h
theorem numA_com8 (k c s n v : Int) (h0 : 0 ≤ s) (h1 : s < 4294967296) : numA (comL k c s n v) 8 = s := by
  have h := numA_headL s h0 h1 (headL k ++ headL c) (headL n ++ headL v)
  exact h
theorem numA_com12 (k c s n v : Int) (h0 : 0 ≤ n) (h1 : n < 4294967296) : numA (comL k c s n v) 12 = n := by
  have h := numA_headL n h0 h1 (headL k ++ headL c ++ headL s) (headL v)
  exact h
theorem numA_com16 (k c s n v : Int) (h0 : 0 ≤ v) (h1 : v < 4294967296) : numA (comL k c s n v) 16 = v := by
  have h := numA_headL v h0 h1 (headL k ++ headL c ++ headL s ++ headL n) []
  exact h
/-- what twenty bytes tell is what they are -/
theorem comL_num {l : List Int} (hl : l.length = 20) (hb : ∀ x ∈ l, 0 ≤ x ∧ x < 256) : comL (numA l 0) (numA l 4) (numA l 8) (numA l 12) (numA l 16) = l := by
  unfold comL
  rw [headL_numA hb, headL_numA hb, headL_numA hb, headL_numA hb, headL_numA hb]
  match l, hl with
  | [_, _, _, _, _, _, _, _, _, _, _, _, _, _, _, _, _, _, _, _], _ => rfl
/-- what is wrong with bytes, and the command that they tell -/
def decE (l : List Int) : Int := if l.length ≠ 20 then 1 else comE (numA l 0) (numA l 4) (numA l 8) (numA l 12) (numA l 16)
def decV (l : List Int) : Array Value := if decE l = 0 then cmA (numA l 0) (numA l 4) (numA l 8) (numA l 12) (numA l 16) else cmA 0 0 0 0 0

/-- a token that may be -/
def TokB (c r u : Int) : Prop := (0 ≤ c ∧ c ≤ 7) ∧ (0 ≤ r ∧ r ≤ 7) ∧ 0 ≤ u ∧ u ≤ 1048576
instance (c r u : Int) : Decidable (TokB c r u) := by unfold TokB; exact inferInstance
/-- what is wrong with a token -/
def tokE (c r u : Int) : Int := if TokB c r u then 0 else 2
theorem tokE_ok {c r u : Int} (h : TokB c r u) : tokE c r u = 0 := if_pos h
theorem tokE_no {c r u : Int} (h : ¬ TokB c r u) : tokE c r u = 2 := if_neg h
/-- does a set of rights have what a kind needs? -/
def HasR (k r : Int) : Prop := (k = 1 ∧ r / 2 % 2 = 1) ∨ (k = 2 ∧ r % 2 = 1) ∨ (k = 3 ∧ r / 4 = 1)
instance (k r : Int) : Decidable (HasR k r) := by unfold HasR; exact inferInstance
/-- what a token says of a command at a time -/
def allE (tc tr tu k c s n v now : Int) : Int :=
  if ¬ TokB tc tr tu then 2
  else if comE k c s n v ≠ 0 then comE k c s n v
  else if ¬ (HasR k tr ∧ c = tc) then 11
  else if ¬ (0 ≤ now ∧ now ≤ tu) then 10
  else 0
theorem allE_tok {tc tr tu k c s n v now : Int} (h : ¬ TokB tc tr tu) : allE tc tr tu k c s n v now = 2 := if_pos h
theorem allE_com {tc tr tu k c s n v now : Int} (h : TokB tc tr tu) (h1 : comE k c s n v ≠ 0) : allE tc tr tu k c s n v now = comE k c s n v := by
  unfold allE; rw [if_neg (fun g => g h), if_pos h1]
theorem allE_right {tc tr tu k c s n v now : Int} (h : TokB tc tr tu) (h1 : comE k c s n v = 0) (h2 : ¬ (HasR k tr ∧ c = tc)) : allE tc tr tu k c s n v now = 11 := by
  unfold allE; rw [if_neg (fun g => g h), if_neg (fun g => g h1), if_pos h2]
theorem allE_time {tc tr tu k c s n v now : Int} (h : TokB tc tr tu) (h1 : comE k c s n v = 0) (h2 : HasR k tr ∧ c = tc) (h3 : ¬ (0 ≤ now ∧ now ≤ tu)) : allE tc tr tu k c s n v now = 10 := by
  unfold allE; rw [if_neg (fun g => g h), if_neg (fun g => g h1), if_neg (fun g => g h2), if_pos h3]
theorem allE_ok {tc tr tu k c s n v now : Int} (h : TokB tc tr tu) (h1 : comE k c s n v = 0) (h2 : HasR k tr ∧ c = tc) (h3 : 0 ≤ now ∧ now ≤ tu) : allE tc tr tu k c s n v now = 0 := by
  unfold allE; rw [if_neg (fun g => g h), if_neg (fun g => g h1), if_neg (fun g => g h2), if_neg (fun g => g h3)]

/-- the six bytes of a token that its Mac is made of -/
def tokH (c r u : Int) : List Int := c :: r :: headL u
theorem tokH_length (c r u : Int) : (tokH c r u).length = 6 := rfl
theorem tokH_byte {c r u : Int} (h : TokB c r u) : ∀ x ∈ tokH c r u, 0 ≤ x ∧ x < 256 := by
  obtain ⟨h1, h2, h3⟩ := h
  intro x hx
  rcases List.mem_cons.1 hx with rfl | hx
  · omega
  rcases List.mem_cons.1 hx with rfl | hx
  · omega
  exact headL_byte _ x hx
theorem numA_tokH (c r u : Int) (m : List Int) (h0 : 0 ≤ u) (h1 : u < 4294967296) : numA (tokH c r u ++ m) 2 = u := by
  have h := numA_headL u h0 h1 [c, r] m
  exact h
/-- six bytes are those of what they tell -/
theorem tokH_num {l : List Int} (hl : 6 ≤ l.length) (hb : ∀ x ∈ l, 0 ≤ x ∧ x < 256) : tokH (l.getD 0 0) (l.getD 1 0) (numA l 2) = l.take 6 := by
  unfold tokH
  rw [headL_numA hb]
  match l, hl with
  | _ :: _ :: _ :: _ :: _ :: _ :: _, _ => rfl
end Go.Proofs.YtakgfdbjgeopdaaGreatDoor
/-
  Commands that are compared.
-/
namespace Go.Proofs.YtakgfdbjgeopdaaGreatDoor
open Go.RowKit
set_option linter.unusedVariables false

set_option maxRecDepth 100000 in
theorem eql_com (a b c d e a' b' c' d' e' : Int) : ∀ w, (binOp .eql 25 (.agg #[.int .i64 a, .int .i64 b, .int .i64 c, .int .i64 d, .int .i64 e]) (.agg #[.int .i64 a', .int .i64 b', .int .i64 c', .int .i64 d', .int .i64 e'])).run Tryz.prog w = .ok (.bool (decide (a = a' ∧ b = b' ∧ c = c' ∧ d = d' ∧ e = e'))) w := by
  intro w
  rw [run_eql_struct, run_equalIn_agg w 9999 _ _ _ (by kernel_rfl) (by kernel_rfl)]
  unfold Program.fieldsOf
  rw [Tryz.underlying25]
  have h3 := Tryz.underlying3
  simp [Op.eqFields, go_sem, h3]
  repeat' split
  all_goals simp_all
set_option maxRecDepth 100000 in
theorem neq_com (a b c d e a' b' c' d' e' : Int) : ∀ w, (binOp .neq 25 (.agg #[.int .i64 a, .int .i64 b, .int .i64 c, .int .i64 d, .int .i64 e]) (.agg #[.int .i64 a', .int .i64 b', .int .i64 c', .int .i64 d', .int .i64 e'])).run Tryz.prog w = .ok (.bool (!decide (a = a' ∧ b = b' ∧ c = c' ∧ d = d' ∧ e = e'))) w := by
  intro w
  rw [run_neq_struct, run_equalIn_agg w 9999 _ _ _ (by kernel_rfl) (by kernel_rfl)]
  unfold Program.fieldsOf
  rw [Tryz.underlying25]
  have h3 := Tryz.underlying3
  simp [Op.eqFields, go_sem, h3]
  repeat' split
  all_goals simp_all
end Go.Proofs.YtakgfdbjgeopdaaGreatDoor
/-
  Variables that hold a command.
-/
namespace Go.Proofs.YtakgfdbjgeopdaaGreatDoor
open Go.RowKit
set_option linter.unusedVariables false

theorem cmA_cells {w : World} {g : Nat} {k c s n v : Int} {ty : TypeId} {fr : Nat × Nat} (h : w.heap[g]? = some (.cells (cmA k c s n v) ty fr)) :
    w.cell? ⟨g, 0, none⟩ = some (.int .i64 k) ∧ w.cell? ⟨g, 1, none⟩ = some (.int .i64 c) ∧ w.cell? ⟨g, 2, none⟩ = some (.int .i64 s) ∧ w.cell? ⟨g, 3, none⟩ = some (.int .i64 n) ∧ w.cell? ⟨g, 4, none⟩ = some (.int .i64 v) :=
  ⟨cell_of_row _ _ 0 _ _ _ h, cell_of_row _ _ 1 _ _ _ h, cell_of_row _ _ 2 _ _ _ h, cell_of_row _ _ 3 _ _ _ h, cell_of_row _ _ 4 _ _ _ h⟩
theorem inC_iff (c s n v : Int) : InC c s n v ↔ (((0 ≤ c ∧ c ≤ 7) ∧ (0 ≤ s ∧ s ≤ 1048576)) ∧ (0 ≤ n ∧ n ≤ 7)) ∧ (0 ≤ v ∧ v ≤ 1073741824) := by unfold InC; omega
/-- a variable that holds a command -/
structure Bc (w : World) (g : Nat) (k c s n v : Int) : Prop where
  lt : g < w.heap.size
  row : w.heap[g]? = some (.cells (cmA k c s n v) 25)
theorem Bc.made (w : World) (k c s n v : Int) : Bc (w.alloc (.cells (cmA k c s n v) 25)) w.heap.size k c s n v := ⟨by simp, heap_alloc_new _ _⟩
theorem Bc.below {w w' : World} {g : Nat} {k c s n v : Int} (h : Bc w g k c s n v) (hb : Below w.heap.size w w') : Bc w' g k c s n v :=
  ⟨Nat.lt_of_lt_of_le h.lt hb.size, (hb.block g h.lt).trans h.row⟩
theorem comInfo (k c s n v : Int) : (Tryz.prog.info? 25).map (·.size) = some (cmA k c s n v).size := by show _ = some 5; kernel_rfl
end Go.Proofs.YtakgfdbjgeopdaaGreatDoor
/-
  The walks of what commands may be, and of which tokens.
-/
namespace Go.Proofs.YtakgfdbjgeopdaaGreatDoor
open Go.RowKit
set_option linter.unusedVariables false

/-- the table of what each kind needs stands in memory -/
def needL : List Int := [0, 0, 0, 2, 7, 1073741824, 1, 7, 0, 4, 7, 0]
structure NTab (w : World) : Prop where
  lt : 0 < w.heap.size
  cell : ∀ i, i < 12 → w.cell? ⟨0, i, none⟩ = some (.int .i64 (needL.getD i 0))
theorem NTab.below {w w' : World} (h : NTab w) (hb : Below w.heap.size w w') : NTab w' :=
  ⟨Nat.lt_of_lt_of_le h.lt hb.size, fun i hi => (hb.cell (p := ⟨0, i, none⟩) h.lt).trans (h.cell i hi)⟩

theorem upTo_any (n g : Int) (w : World) :
    Calls Tryz.prog 62 #[.int .i64 n, .int .i64 g] w fun e w' => e = .returned (.bool (decide (0 ≤ n ∧ n ≤ g))) ∧ w' = w := by
  by_cases h0 : 0 ≤ n
  · by_cases h1 : n ≤ g
    · rw [decide_eq_true ⟨h0, h1⟩]
      go_enter Tryz.func62, Tryz.ntmps62
      go_wp2
      go_ret
      exact ⟨ret_bool (by simp), rfl⟩
    · rw [decide_eq_false (by omega)]
      go_enter Tryz.func62, Tryz.ntmps62
      go_wp2
      go_ret
      exact ⟨ret_bool (by simp), rfl⟩
  · rw [decide_eq_false (by omega)]
    go_enter Tryz.func62, Tryz.ntmps62
    go_wp2
    go_ret
    exact ⟨ret_bool (by simp), rfl⟩

theorem upTo_if {n g : Int} {b : Bool} (h : Hid (decide (0 ≤ n ∧ n ≤ g) = b)) (w : World) :
    Calls Tryz.prog 62 #[.int .i64 n, .int .i64 g] w fun e w' => e = .returned (.bool b) ∧ w' = w := by
  rw [← h.out]; exact upTo_any n g w

theorem isKind_any (k : Int) (w : World) :
    Calls Tryz.prog 84 #[.int .i64 k] w fun e w' => e = .returned (.bool (decide (0 ≤ k ∧ k ≤ 3))) ∧ w' = w := by
  go_enter Tryz.func84, Tryz.ntmps84
  go_wp2_with fail
  refine (upTo_any k 3 _).mono ?_
  rintro e w1 ⟨rfl, rfl⟩
  go_wp2
  go_ret
  exact ⟨ret_bool (by simp), rfl⟩

theorem noop_any (c s n v : Int) (w : World) :
    Calls Tryz.prog 85 #[.agg (cmA 0 c s n v)] w fun e w' => e = .returned (.int .i64 (comE 0 c s n v)) ∧ Below w.heap.size w w' := by
  have bb : Below w.heap.size w (w.alloc (.cells (cmA 0 c s n v) 25)) := (Below.refl _ _).alloc (Nat.le_refl _) _
  simp only [cmA] at bb ⊢
  have hq := neq_com 0 c s n v 0 0 0 0 0
  by_cases h : c = 0 ∧ s = 0 ∧ n = 0 ∧ v = 0
  · have HE : Hid (0 = comE 0 c s n v) := (comE_noop h).symm
    rw [decide_eq_true ⟨rfl, h⟩] at hq
    clear h
    go_enter Tryz.func85, Tryz.ntmps85
    go_wp2
    go_ret
    exact ⟨ret_num HE.out, bb⟩
  · have HE : Hid (3 = comE 0 c s n v) := (comE_noopF h).symm
    rw [decide_eq_false (fun g => h g.2)] at hq
    clear h
    go_enter Tryz.func85, Tryz.ntmps85
    go_wp2
    go_ret
    exact ⟨ret_num HE.out, bb⟩

theorem NTab.name {w : World} (h : NTab w) (k : Nat) (h0 : 1 ≤ k) (h1 : k ≤ 3) : w.cell? ⟨0, k * 3 + 1, none⟩ = some (.int .i64 7) := by
  rcases (by omega : k = 1 ∨ k = 2 ∨ k = 3) with rfl | rfl | rfl
  · exact h.cell 4 (by omega)
  · exact h.cell 7 (by omega)
  · exact h.cell 10 (by omega)
set_option maxHeartbeats 1000000 in
set_option maxRecDepth 100000 in
theorem inBounds_any (k c s n v : Int) (w : World) (hk : 1 ≤ k ∧ k ≤ 3) (ht : NTab w) :
    Calls Tryz.prog 86 #[.agg (cmA k c s n v)] w fun e w' => e = .returned (.bool (decide (InC c s n v))) ∧ Below w.heap.size w w' := by
  have bb : Below w.heap.size w (w.alloc (.cells (cmA k c s n v) 25)) := (Below.refl _ _).alloc (Nat.le_refl _) _
  have hN := (ht.below bb).name
  have rr := heap_alloc_new w (.cells (cmA k c s n v) 25)
  simp only [cmA] at bb hN rr ⊢
  obtain ⟨m, rfl⟩ := Int.eq_ofNat_of_zero_le (show 0 ≤ k by omega)
  replace hN := hN m (by omega) (by omega)
  have k0 : (0 : Int) ≤ (m : Int) := by omega
  have k1 : (m : Int) < 4 := by omega
  have k2 : m < 4 := by omega
  clear hk ht
  have HI : Hid (InC c s n v ↔ _) := inC_iff c s n v
  generalize hW : w.alloc (.cells #[.int .i64 (m : Int), .int .i64 c, .int .i64 s, .int .i64 n, .int .i64 v] 25) = W at bb hN rr
  go_enter Tryz.func86, Tryz.ntmps86
  go_wp2_with fail
  clear hW
  obtain ⟨c0, c1, c2, c3, c4⟩ := cmA_cells rr
  clear rr
  by_cases h1 : 0 ≤ c ∧ c ≤ 7
  · have U1 : Hid (decide _ = true) := decide_eq_true h1
    by_cases h2 : 0 ≤ s ∧ s ≤ 1048576
    · have U2 : Hid (decide _ = true) := decide_eq_true h2
      by_cases h3 : 0 ≤ n ∧ n ≤ 7
      · have U3 : Hid (decide _ = true) := decide_eq_true h3
        by_cases h4 : 0 ≤ v ∧ v ≤ 1073741824
        · have U4 : Hid (decide _ = true) := decide_eq_true h4
          have HB : Hid (true = decide (InC c s n v)) := (decide_eq_true (HI.out.2 ⟨⟨⟨h1, h2⟩, h3⟩, h4⟩)).symm
          clear h1 h2 h3 h4 HI
          go_quiet ((go_at_call 62; exact Calls.quiet_of_same (upTo_if (by assumption) _)))
          go_wp2
          go_ret
          exact ⟨ret_bool HB.out, below_drewN bb nq⟩
        · have U4 : Hid (decide _ = false) := decide_eq_false h4
          have HB : Hid (false = decide (InC c s n v)) := (decide_eq_false (fun G => h4 ((fun g => g.2) (HI.out.1 G)))).symm
          clear h1 h2 h3 h4 HI
          go_quiet ((go_at_call 62; exact Calls.quiet_of_same (upTo_if (by assumption) _)))
          go_wp2
          go_ret
          exact ⟨ret_bool HB.out, below_drewN bb nq⟩
      · have U3 : Hid (decide _ = false) := decide_eq_false h3
        have HB : Hid (false = decide (InC c s n v)) := (decide_eq_false (fun G => h3 ((fun g => g.1.2) (HI.out.1 G)))).symm
        clear h1 h2 h3 HI
        go_quiet ((go_at_call 62; exact Calls.quiet_of_same (upTo_if (by assumption) _)))
        go_wp2
        go_ret
        exact ⟨ret_bool HB.out, below_drewN bb nq⟩
    · have U2 : Hid (decide _ = false) := decide_eq_false h2
      have HB : Hid (false = decide (InC c s n v)) := (decide_eq_false (fun G => h2 ((fun g => g.1.1.2) (HI.out.1 G)))).symm
      clear h1 h2 HI
      go_quiet ((go_at_call 62; exact Calls.quiet_of_same (upTo_if (by assumption) _)))
      go_wp2
      go_ret
      exact ⟨ret_bool HB.out, below_drewN bb nq⟩
  · have U1 : Hid (decide _ = false) := decide_eq_false h1
    have HB : Hid (false = decide (InC c s n v)) := (decide_eq_false (fun G => h1 ((fun g => g.1.1.1) (HI.out.1 G)))).symm
    clear h1 HI
    go_quiet ((go_at_call 62; exact Calls.quiet_of_same (upTo_if (by assumption) _)))
    go_wp2
    go_ret
    exact ⟨ret_bool HB.out, below_drewN bb nq⟩
end Go.Proofs.YtakgfdbjgeopdaaGreatDoor
