/-
  The walk of the document's channel that numbers make.
-/
import Derived.Laws.Tables
import Derived.Laws.Rows
import Derived.Laws.CopyOwn
import Derived.Deep.Cut
import Derived.BigQuiet
import Derived.ChangeKeysEq
import Derived.Test.YtakgfdbjgeopdaaGreatDoorKp32
import Derived.Test.YtakgfdbjgeopdaaGreatDoorKp27
import Derived.Test.YtakgfdbjgeopdaaGreatDoorKp8
import Derived.Test.YtakgfdbjgeopdaaGreatDoorKp2
namespace Go.Proofs.YtakgfdbjgeopdaaGreatDoor
open Go.RowKit
set_option linter.unusedVariables false

theorem chInfoD {k : Value} {s t : Int} {l : List Bool} (hl : l.length = 8) : (Tryz.prog.info? 55).map (·.size) = some (chA k s t l).size := by rw [chA_size, hl]; kernel_rfl
theorem chA_oneD (a : Option Addr) (n c : Nat) (s t : Int) (l : List Bool) : (chA (.slice a n c) s t l).all (·.oneCell') = true := by simp [chA, Value.oneCell']
/-- a channel lies in the variable g -/
structure Dc (W : World) (g : Nat) (k : Value) (s t : Int) (l : List Bool) : Prop where
  row : W.heap[g]? = some (.cells (chA k s t l) 55 (0, 0))
theorem Dc.lt {W : World} {g : Nat} {k : Value} {s t : Int} {l : List Bool} (h : Dc W g k s t l) : g < W.heap.size := (Array.getElem?_eq_some_iff.1 h.row).1
theorem Dc.below {W W' : World} {g : Nat} {k : Value} {s t : Int} {l : List Bool} (h : Dc W g k s t l) (hb : Below W.heap.size W W') : Dc W' g k s t l := ⟨(hb.block _ h.lt).trans h.row⟩
theorem Dc.made (W : World) (k : Value) (s t : Int) (l : List Bool) : Dc (W.alloc (.cells (chA k s t l) 55)) W.heap.size k s t l := ⟨heap_alloc_new _ _⟩
theorem Dc.c0 {W : World} {g : Nat} {k : Value} {s t : Int} {l : List Bool} (h : Dc W g k s t l) : W.cell? ⟨g, 0, none⟩ = some k := (cell_of_row _ _ 0 _ _ _ h.row).trans (chA_key k s t l)
theorem Dc.c1 {W : World} {g : Nat} {k : Value} {s t : Int} {l : List Bool} (h : Dc W g k s t l) : W.cell? ⟨g, 1, none⟩ = some (.int .i64 s) := (cell_of_row _ _ 1 _ _ _ h.row).trans (chA_sent k s t l)
theorem Dc.c2 {W : World} {g : Nat} {k : Value} {s t : Int} {l : List Bool} (h : Dc W g k s t l) : W.cell? ⟨g, 2, none⟩ = some (.int .i64 t) := (cell_of_row _ _ 2 _ _ _ h.row).trans (chA_top k s t l)
theorem Dc.c3 {W : World} {g : Nat} {k : Value} {s t : Int} {l : List Bool} (h : Dc W g k s t l) (i : Nat) (hi : i < l.length) : W.cell? ⟨g, 3 + i, none⟩ = some (.bool (l.getD i false)) := (cell_of_row _ _ (3 + i) _ _ _ h.row).trans (chA_seen k s t l i hi)
theorem Dc.fr {W : World} {g : Nat} {k : Value} {s t : Int} {l : List Bool} (h : Dc W g k s t l) (i : Nat) : W.frozen? ⟨g, i, none⟩ = false := frozen_of_row _ _ i _ _ h.row
theorem Dc.top {W : World} {g : Nat} {k : Value} {s t : Int} {l : List Bool} (h : Dc W g k s t l) (t' : Int) : Dc (W.setCell ⟨g, 2, none⟩ (.int .i64 t')) g k s t' l :=
  ⟨by
    rw [heap_setCell_same _ _ _ _ _ _ h.row]
    rfl⟩
theorem Dc.seen {W : World} {g : Nat} {k : Value} {s t : Int} {l : List Bool} (h : Dc W g k s t l) (i : Nat) (x : Bool) : Dc (W.setCell ⟨g, 3 + i, none⟩ (.bool x)) g k s t (l.set i x) :=
  ⟨by
    rw [heap_setCell_same _ _ _ _ _ _ h.row]
    congr 2
    apply Array.ext'
    rw [Nat.add_comm]
    simp [chA, List.map_set]⟩
theorem Dc.key {W : World} {g : Nat} {k : Value} {s t : Int} {l : List Bool} (h : Dc W g k s t l) (k' : Value) : Dc (W.setCell ⟨g, 0, none⟩ k') g k' s t l :=
  ⟨by
    rw [heap_setCell_same _ _ _ _ _ _ h.row]
    rfl⟩
theorem Dc.other {W : World} {g : Nat} {k : Value} {s t : Int} {l : List Bool} (h : Dc W g k s t l) (g' i : Nat) (u : Value) (hne : g ≠ g') : Dc (W.setCell ⟨g', i, none⟩ u) g k s t l :=
  ⟨(heap_setCell_other _ _ _ _ (by simpa using hne)).trans h.row⟩
theorem chA_litD (k : Value) (s t : Int) : chA k s t noB = #[k, .int .i64 s, .int .i64 t, .bool false, .bool false, .bool false, .bool false, .bool false, .bool false, .bool false, .bool false] := rfl

/-- what was met, of the first i numbers -/
def chSi (L : List Int) (i : Nat) : List Bool := (List.range 8).map fun k : Nat => decide (chT L - 8 + (k : Int) ∈ L.take i)
theorem chSi_length (L : List Int) (i : Nat) : (chSi L i).length = 8 := by simp [chSi]
theorem chSi_zero (L : List Int) : chSi L 0 = noB := by
  apply list8 (chSi_length _ _) rfl
  intro k hk
  rw [noB_at]
  simp [chSi, List.getD, hk]
theorem chSi_full (L : List Int) : chSi L L.length = chS L := by simp [chSi, chS]
theorem chSi_low (L : List Int) (i : Nat) (hi : i < L.length) (h : L.getD i 0 - chT L + 8 < 0) : chSi L (i + 1) = chSi L i := by
  apply list8 (chSi_length _ _) (chSi_length _ _)
  intro k hk
  have e : L.take (i + 1) = L.take i ++ [L.getD i 0] := by
    rw [List.take_add_one, List.getElem?_eq_getElem hi, getD_at hi]
    rfl
  simp only [chSi, List.getD, List.getElem?_map, List.getElem?_range hk, Option.map_some, Option.getD_some]
  rw [e, decide_eq_decide, List.mem_append, List.mem_singleton]
  constructor
  · rintro (h1 | h1)
    · exact h1
    · omega
  · exact .inl
theorem chSi_set (L : List Int) (i : Nat) (hi : i < L.length) (k : Nat) (hk : k < 8) (h : L.getD i 0 - chT L + 8 = (k : Int)) : chSi L (i + 1) = (chSi L i).set k true := by
  apply list8 (chSi_length _ _) (by rw [List.length_set, chSi_length])
  intro j hj
  have e : L.take (i + 1) = L.take i ++ [L.getD i 0] := by
    rw [List.take_add_one, List.getElem?_eq_getElem hi, getD_at hi]
    rfl
  have hs : ((chSi L i).set k true).getD j false = if j = k then true else (chSi L i).getD j false := by
    rw [List.getD_eq_getElem?_getD, List.getElem?_set, List.getD_eq_getElem?_getD]
    by_cases hh : k = j
    · subst hh; simp [chSi_length, hk]
    · rw [if_neg hh, if_neg (fun e => hh e.symm)]
  rw [hs]
  simp only [chSi, List.getD, List.getElem?_map, List.getElem?_range hj, Option.map_some, Option.getD_some]
  rw [e]
  by_cases hjk : j = k
  · rw [if_pos hjk]
    exact decide_eq_true (List.mem_append.2 (.inr (List.mem_singleton.2 (by omega))))
  · rw [if_neg hjk, decide_eq_decide, List.mem_append, List.mem_singleton]
    constructor
    · rintro (h1 | h1)
      · exact h1
      · omega
    · exact .inl

set_option maxHeartbeats 4000000 in
set_option maxRecDepth 100000 in
theorem chan_any (vk : Value) (key : List Int) (s : Int) (v : Value) (L : List Int) (w : World) (hk : Sl w vk key) (lk : key.length ≤ 100000) (hL : Zl w v L) (hb : ∀ x ∈ L, -8 ≤ x ∧ x ≤ 1073741824 ∧ x < chT L) (hl9 : L.length ≤ 100) :
    Calls Tryz.prog 58 #[vk, .int .i64 s, v] w fun e w' => ∃ v', e = .returned (.agg (chA v' s (chT L) (chS L))) ∧ w'.ownsRow 0 5 1 v' key.length (key.map (Value.int .u8)) ∧ Below w.heap.size w w' := by
  have d0 := Dc.made w (.slice none 0 0) 0 0 noB
  have b0 : Below w.heap.size w (w.alloc (.cells (chA (.slice none 0 0) 0 0 noB) 55)) := (Below.refl _ _).alloc (Nat.le_refl _) _
  have hz0 : (w.alloc (.cells (chA (.slice none 0 0) 0 0 noB) 55)).heap.size = w.heap.size + 1 := by simp
  obtain ⟨az, cz, rfl, hcz⟩ := hL.shape
  go_enter Tryz.func58, Tryz.ntmps58
  go_wp2_with fail
  refine (ref_joined vk _ key [] _ (hk.below b0) (Sl.nil _ _) lk (by simp)).mono ?_
  rintro e w1 ⟨v1, rfl, o1, c1⟩
  rw [List.append_nil, hz0] at o1
  have d1 := d0.below c1
  have e1 : Below w.heap.size w w1 := b0.trans (c1.mono (by omega))
  have hz1 : w.heap.size + 1 ≤ w1.heap.size := by have := c1.size; omega
  clear d0 b0 c1 hz0
  obtain ⟨a1, n1, hv1⟩ : ∃ a c, v1 = .slice a key.length c := by
    rcases o1.2 with ⟨rfl, h0⟩ | ⟨g, cap, cur, rfl, _⟩
    · exact ⟨none, 0, by rw [h0]⟩
    · exact ⟨_, cap, rfl⟩
  generalize hkl : key.length = nk at hv1 o1
  have HKL : Hid (key.length = nk) := hkl
  clear hkl
  subst hv1
  go_upto_region 2 with fail
  have dG := Dc.made w1 (.slice a1 nk n1) s 0 noB
  have b2 : Below w1.heap.size w1 (w1.alloc (.cells (chA (.slice a1 nk n1) s 0 noB) 55)) := (Below.refl _ _).alloc (Nat.le_refl _) _
  rw [chA_litD] at dG b2
  have dR := d1.below b2
  have e2 : Below w.heap.size w (w1.alloc (.cells #[.slice a1 nk n1, .int .i64 s, .int .i64 0, .bool false, .bool false, .bool false, .bool false, .bool false, .bool false, .bool false, .bool false] 55)) := e1.trans (b2.mono e1.size)
  have hoG : ∀ k, (Value.slice a1 nk n1).ownBlock = some k → w.heap.size + 1 ≤ k ∧ k < w1.heap.size := o1.lt
  have HOG : Hid (∀ k, (Value.slice a1 nk n1).ownBlock = some k → w.heap.size + 1 ≤ k ∧ k < w1.heap.size) := hoG
  replace o1 : (w1.alloc (.cells #[.slice a1 nk n1, .int .i64 s, .int .i64 0, .bool false, .bool false, .bool false, .bool false, .bool false, .bool false, .bool false, .bool false] 55)).ownsRow 0 5 1 (.slice a1 nk n1) nk (key.map (Value.int .u8)) := owns_keepB (owns_lower o1 (Nat.zero_le _)) fun k hk' => b2.block k (hoG k hk').2
  generalize w1.alloc (.cells #[.slice a1 nk n1, .int .i64 s, .int .i64 0, .bool false, .bool false, .bool false, .bool false, .bool false, .bool false, .bool false, .bool false] 55) = W2 at dG dR e2 o1 ⊢
  clear b2 d1 e1 hoG
  generalize w1.heap.size = G at dG HOG hz1 ⊢
  generalize (Value.agg #[.slice a1 nk n1, .int .i64 s, .int .i64 0, .bool false, .bool false, .bool false, .bool false, .bool false, .bool false, .bool false, .bool false]) = T13
  have hne : G ≠ w.heap.size := by omega
  by_cases hnil : L.length = 0
  · obtain rfl : L = [] := List.eq_nil_of_length_eq_zero hnil
    have hi2 := chInfoD (k := .slice a1 nk n1) (s := s) (t := 0) noB_length
    have ho2 := chA_oneD a1 nk n1 s 0 noB
    have hold : (chA (.slice none 0 0) 0 0 noB).size = (chA (.slice a1 nk n1) s 0 noB).size := rfl
    go_wp2_with (first
      | (refine wpList_load_row rfl 55 _ rfl G rfl 55 _ (0, 0) _ dG.row Tryz.underlying55 rfl hi2 ?_)
      | (refine wpList_store_row rfl 55 _ _ rfl w.heap.size _ rfl rfl 55 _ dR.row hi2 hold ho2 ?_))
    have r2 := setRow_heap W2 w.heap.size _ (chA (.slice a1 nk n1) s 0 noB) 55 _ dR.row
    exact bodyPost_ret (v := .agg (chA (.slice a1 nk n1) s 0 noB)) (results_cell_row rfl _ _ w.heap.size 55 _ (0, 0) _ rfl r2 Tryz.underlying55 rfl hi2) rfl ⟨.slice a1 nk n1, by rw [chT_nil, chS_nil], by rw [HKL.out]; exact owns_keepB o1 fun k hk' => setRow_other _ _ _ _ (by have := HOG.out k hk'; omega), below_setRow e2 (Nat.le_refl _) _⟩
  · have hl0 : 0 < L.length := by omega
    obtain ⟨T, hT⟩ : ∃ T, chT L = T := ⟨_, rfl⟩
    have HT : Hid (chT L = T) := hT
    have HB : Hid (∀ i, i < L.length → -8 ≤ L.getD i 0 ∧ L.getD i 0 ≤ 1073741824 ∧ L.getD i 0 < T) := fun i hi => by
      rw [getD_at hi, ← hT]; exact hb _ (List.getElem_mem hi)
    obtain ⟨zb, zo, haz, hzb, hzl, _, _⟩ := hL.spot e2 (L.length - 1) (by omega)
    subst haz
    have hlast : L.getD (L.length - 1) 0 = T - 1 := by
      rw [← hT]
      have : L.getLast? = some (L.getD (L.length - 1) 0) := by
        rw [List.getLast?_eq_getElem?, List.getElem?_eq_getElem (by omega), getD_at (by omega)]
      rw [chT_last this]
      omega
    rw [hlast] at hzl
    have hTb := (HB.out (L.length - 1) (by omega))
    rw [hlast] at hTb
    have hidx : ((L.length : Int) - 1) = ((L.length - 1 : Nat) : Int) := by omega
    have x2 := dG.c2
    have f2 := dG.fr 2
    have hlen0 : ¬ (L.length : Int) = 0 := by omega
    have hTT : T - 1 + 1 = T := by omega
    clear hb hT hlast hidx
    go_upto_region 5 with fail
    have dG3 := dG.top T
    have dR3 := dR.other G 2 (.int .i64 T) (by omega)
    have o3 : (W2.setCell ⟨G, 2, none⟩ (.int .i64 T)).ownsRow 0 5 1 (.slice a1 nk n1) nk (key.map (Value.int .u8)) := owns_keepB o1 fun k hk' => heap_setCell_other _ _ _ _ (by have := HOG.out k hk'; show k ≠ G; omega)
    have e3 := e2.setCell (p := ⟨G, 2, none⟩) (by show w.heap.size ≤ G; omega) (.int .i64 T)
    generalize W2.setCell ⟨G, 2, none⟩ (.int .i64 T) = W3 at dG3 dR3 o3 e3 ⊢
    clear dG dR o1 e2 x2 f2 hzl hzb
    go_wp2_with fail
    go_loopw [8] (fun iv wr => ∃ i : Nat, i ≤ L.length ∧ iv = .int .i64 (i : Int) ∧ Dc wr G (.slice a1 nk n1) s T (chSi L i) ∧ Dc wr w.heap.size (.slice none 0 0) 0 0 noB ∧ wr.ownsRow 0 5 1 (.slice a1 nk n1) nk (key.map (Value.int .u8)) ∧ Below w.heap.size w wr) (fun iv _ => L.length - (intOf iv).toNat)
    case atStart => exact ⟨0, by omega, rfl, by rw [chSi_zero]; exact dG3, dR3, o3, e3⟩
    case round =>
      clear dG3 dR3 o3 e3
      obtain ⟨i, hi, rfl, dG, dR, ok, hbel⟩ := hrel
      by_cases hlt : i < L.length
      · have hi1 : (i : Int) < (L.length : Int) := by omega
        obtain ⟨zb', zo', haz, hzb, hz, _, _⟩ := hL.spot hbel i hlt
        simp only [Option.some.injEq, Addr.mk.injEq, and_true] at haz
        obtain ⟨rfl, rfl⟩ := haz
        obtain ⟨hx1, hx2, hx3⟩ := HB.out i hlt
        have x2 := dG.c2
        have HLO : Hid (L.getD i 0 - T + 8 < 0 → chSi L (i + 1) = chSi L i) := fun h => chSi_low L i hlt (by rw [HT.out]; exact h)
        have HST : Hid (∀ k : Nat, k < 8 → L.getD i 0 - T + 8 = (k : Int) → chSi L (i + 1) = (chSi L i).set k true) := fun k hk h => chSi_set L i hlt k hk (by rw [HT.out]; exact h)
        have hsl := chSi_length L i
        generalize L.getD i 0 = x at hz hx1 hx2 hx3 HLO HST
        go_wp2_with fail
        go_quiet (fail)
        have q1 : Below wr.heap.size wr (wr.drewN nq) := below_drewN (Below.refl _ _) nq
        have dGq := dG.below q1
        have dRq := dR.below q1
        have okq : (wr.drewN nq).ownsRow 0 5 1 (.slice a1 nk n1) nk (key.map (Value.int .u8)) := ok
        have hbq : Below w.heap.size w (wr.drewN nq) := hbel.trans (q1.mono hbel.size)
        generalize wr.drewN nq = wq at dGq dRq okq hbq ⊢
        clear q1 dG dR ok hbel x2 hz
        by_cases hneg : x - T + 8 < 0
        · go_wp2
          go_roundw
          case rel => exact ⟨i + 1, by omega, by go_num, by rw [HLO.out hneg]; exact dGq, dRq, okq, hbq⟩
          case measure => simp [intOf]; omega
        · obtain ⟨k, hk⟩ : ∃ k : Nat, x - T + 8 = (k : Int) := ⟨(x - T + 8).toNat, by omega⟩
          have hk8 : k < 8 := by omega
          have hk8' : (k : Int) < 8 := by omega
          have x3 := dGq.c3 k (by omega)
          have f3 := dGq.fr (3 + k)
          have HS := HST.out k hk8 hk
          have HS2 : Hid (chSi L (i + 1) = (chSi L i).set k true) := HS
          have dG4 := dGq.seen k true
          have dR4 := dRq.other G (3 + k) (.bool true) (by omega)
          have ok4 : (wq.setCell ⟨G, 3 + k, none⟩ (.bool true)).ownsRow 0 5 1 (.slice a1 nk n1) nk (key.map (Value.int .u8)) := owns_keepB okq fun j hj => heap_setCell_other _ _ _ _ (by have := HOG.out j hj; show j ≠ G; omega)
          have e4 := hbq.setCell (p := ⟨G, 3 + k, none⟩) (by show w.heap.size ≤ G; omega) (.bool true)
          generalize (chSi L i).getD k false = c3 at x3
          rw [hk]
          clear HLO HST HS hneg hk
          go_wp2
          go_roundw
          case rel => exact ⟨i + 1, by omega, by go_num, by rw [HS2.out]; exact dG4, dR4, ok4, e4⟩
          case measure => simp [intOf]; omega
      · obtain rfl : i = L.length := by omega
        have hi1 : ¬ (L.length : Int) < (L.length : Int) := by omega
        rw [chSi_full] at dG
        have hsl := chS_length L
        have hi2 := chInfoD (k := .slice a1 nk n1) (s := s) (t := T) hsl
        have ho2 := chA_oneD a1 nk n1 s T (chS L)
        have hold : (chA (.slice none 0 0) 0 0 noB).size = (chA (.slice a1 nk n1) s T (chS L)).size := by rw [chA_size, chA_size, hsl]; rfl
        go_wp2_with (first
          | (refine wpList_load_row rfl 55 _ rfl G rfl 55 _ (0, 0) _ dG.row Tryz.underlying55 rfl hi2 ?_)
          | (refine wpList_store_row rfl 55 _ _ rfl w.heap.size _ rfl rfl 55 _ dR.row hi2 hold ho2 ?_))
        have r2 := setRow_heap wr w.heap.size _ (chA (.slice a1 nk n1) s T (chS L)) 55 _ dR.row
        exact bodyPost_ret (v := .agg (chA (.slice a1 nk n1) s T (chS L))) (results_cell_row rfl _ _ w.heap.size 55 _ (0, 0) _ rfl r2 Tryz.underlying55 rfl hi2) rfl ⟨.slice a1 nk n1, by rw [HT.out], by rw [HKL.out]; exact owns_keepB ok fun k hk' => setRow_other _ _ _ _ (by have := HOG.out k hk'; omega), below_setRow hbel (Nat.le_refl _) _⟩
end Go.Proofs.YtakgfdbjgeopdaaGreatDoor
/-
  What was met, compared.
-/
namespace Go.Proofs.YtakgfdbjgeopdaaGreatDoor
open Go.RowKit
set_option linter.unusedVariables false

def snA (l : List Bool) : Array Value := (l.map Value.bool).toArray
theorem sn8 {j : Nat} (h : j < 8) : j = 0 ∨ j = 1 ∨ j = 2 ∨ j = 3 ∨ j = 4 ∨ j = 5 ∨ j = 6 ∨ j = 7 := by omega
set_option maxRecDepth 100000 in
theorem sn_part (S : List Bool) (hS : S.length = 8) (j : Nat) (hj : j < 8) (w : World) : (part 4 (snA S) (j * 1)).run Tryz.prog w = .ok (.bool (S.getD j false)) w := by
  obtain ⟨b0, b1, b2, b3, b4, b5, b6, b7, rfl⟩ := eight S hS
  rcases sn8 hj with rfl | rfl | rfl | rfl | rfl | rfl | rfl | rfl
  all_goals kernel_rfl
theorem sn_equal (d : Nat) (a b : Bool) (w : World) : (Op.equalIn (d + 1) 4 (.bool a) (.bool b)).run Tryz.prog w = .ok (a == b) w := by
  simp [Op.equalIn, run_underlying Tryz.underlying4]
theorem sn_items (r z : List Bool) (hr : r.length = 8) (hz : z.length = 8) (d : Nat) (w : World) : ∀ l : List Nat, (∀ i ∈ l, i < 8) → (Op.eqItems (d + 1) 4 1 (snA r) (snA z) l).run Tryz.prog w = .ok (decide (∀ i ∈ l, r.getD i false = z.getD i false)) w
  | [], _ => by simp [Op.eqItems]
  | i :: l, h => by
    have hi := h i (List.mem_cons_self ..)
    have ih := sn_items r z hr hz d w l (fun j hj => h j (List.mem_cons_of_mem _ hj))
    simp only [Op.eqItems, Sem.run_bind, sn_part r hr i hi w, sn_part z hz i hi w, Result.andThen_ok, sn_equal d _ _ w]
    by_cases e : r.getD i false = z.getD i false
    · rw [e]
      simp only [beq_self_eq_true, Bool.not_true, Bool.false_eq_true, if_false, ih]
      congr 1
      simp only [List.mem_cons, forall_eq_or_imp, decide_eq_decide]
      exact ⟨fun q => ⟨e, q⟩, fun q => q.2⟩
    · have hb : (r.getD i false == z.getD i false) = false := beq_false_of_ne e
      rw [hb]
      simp only [Bool.not_false, if_true, Sem.run_pure]
      congr 1
      symm
      simp only [decide_eq_false_iff_not]
      exact fun q => e (q i (List.mem_cons_self ..))
set_option maxRecDepth 100000 in
theorem sn_same (r z : List Bool) (hr : r.length = 8) (hz : z.length = 8) (w : World) : (Op.equalIn 10000 53 (.agg (snA r)) (.agg (snA z))).run Tryz.prog w = .ok (decide (r = z)) w := by
  have h1 := run_equalIn_array (P := Tryz.prog) w 9999 (t := 53) (e := 4) (n := 8) (snA r) (snA z) Tryz.underlying53 (show Tryz.prog.info? 4 = some _ from rfl)
  rw [show Tryz.prog.cellsOf 4 = 1 by kernel_rfl] at h1
  have h2 := h1.trans (sn_items r z hr hz 9998 w (List.range 8) (fun i hi => by simpa using hi))
  refine h2.trans ?_
  congr 1
  rw [decide_eq_decide]
  constructor
  · intro h
    apply List.ext_getElem (by omega)
    intro j g1 g2
    have := h j (by rw [List.mem_range]; omega)
    simpa [List.getD, List.getElem?_eq_getElem g1, List.getElem?_eq_getElem g2] using this
  · intro h i _
    rw [h]
set_option maxRecDepth 100000 in
theorem sn_neq (r z : List Bool) (hr : r.length = 8) (hz : z.length = 8) : ∀ w, (binOp .neq 53 (.agg (snA r)) (.agg (snA z))).run Tryz.prog w = .ok (.bool (!decide (r = z))) w := by
  intro w
  have h : (Op.equal 53 (.agg (snA r)) (.agg (snA z))).run Tryz.prog w = .ok (decide (r = z)) w := sn_same r z hr hz w
  simp [binOp, h]
set_option maxRecDepth 100000 in
theorem sn_eql (r z : List Bool) (hr : r.length = 8) (hz : z.length = 8) : ∀ w, (binOp .eql 53 (.agg (snA r)) (.agg (snA z))).run Tryz.prog w = .ok (.bool (decide (r = z))) w := by
  intro w
  have h : (Op.equal 53 (.agg (snA r)) (.agg (snA z))).run Tryz.prog w = .ok (decide (r = z)) w := sn_same r z hr hz w
  simp [binOp, h]
end Go.Proofs.YtakgfdbjgeopdaaGreatDoor
/-
  The walks of the document's own judgement of a channel, and of its new one.
-/
namespace Go.Proofs.YtakgfdbjgeopdaaGreatDoor
open Go.RowKit
set_option linter.unusedVariables false

theorem Zl.ofOwns {w : World} {base : Nat} {v : Value} {l : List Int} (h : w.ownsRow base 3 1 v l.length (l.map (Value.int .i64))) (hl : l.length ≤ 140737488351232) (hb : ∀ x ∈ l, -9223372036854775808 ≤ x ∧ x ≤ 9223372036854775807) : Zl w v l := by
  refine ⟨?_, hl, hb⟩
  rcases h.2 with ⟨rfl, h0⟩ | ⟨g, cap, cur, rfl, _, hg, hn, _, hcs, ht⟩
  · exact ⟨none, 0, by rw [h0], by omega, .inl (List.eq_nil_of_length_eq_zero h0)⟩
  · refine ⟨_, cap, rfl, hn, .inr ⟨g, 0, rfl, (Array.getElem?_eq_some_iff.1 hg).1, fun i hi => ?_⟩⟩
    have hc := h.cells (g := g) rfl i (.int .i64 (l.getD i 0)) (by simp [List.getElem?_eq_getElem hi, List.getD])
    have hadd : (⟨g, 0, none⟩ : Addr).add i = ⟨g, i, none⟩ := by unfold Addr.add; split <;> simp_all
    rw [hadd] at hc
    simpa using hc
theorem in_anyL (n lo hi : Int) (w : World) :
    Calls Tryz.prog 22 #[.int .i64 n, .int .i64 lo, .int .i64 hi] w fun e w' => e = .returned (.bool (decide (lo ≤ n ∧ n ≤ hi))) ∧ w' = w := by
  go_enter Tryz.func22, Tryz.ntmps22
  by_cases h1 : lo ≤ n
  · by_cases h2 : n ≤ hi
    · go_wp2
      go_ret
      exact ⟨ret_bool (decide_eq_true ⟨h1, h2⟩).symm, rfl⟩
    · go_wp2
      go_ret
      exact ⟨ret_bool (decide_eq_false (by omega)).symm, rfl⟩
  · go_wp2
    go_ret
    exact ⟨ret_bool (by rw [decide_eq_false (show ¬ lo ≤ n by omega), Bool.false_and]), rfl⟩
theorem okC_ofD {key : List Int} {s t : Int} {l : List Bool} (h1 : key.length = 32) (h2 : 0 ≤ s ∧ s ≤ 1073741824) (h3 : 0 ≤ t ∧ t ≤ 1073741824) (h4 : mayB t l = true) : OkC key s t l :=
  ⟨h1, h2.1, h2.2, h3.1, h3.2, ((mayB_iff t l).1 h4).1, ((mayB_iff t l).1 h4).2⟩
theorem checkE_okD {key : List Int} {s t : Int} {l : List Bool} (h : OkC key s t l) : checkE key s t l = 0 := if_pos h
theorem checkE_noD {key : List Int} {s t : Int} {l : List Bool} (h : ¬ OkC key s t l) : checkE key s t l = 5 := if_neg h
theorem chA_lit8 (k : Value) (s t : Int) (b0 b1 b2 b3 b4 b5 b6 b7 : Bool) : chA k s t [b0, b1, b2, b3, b4, b5, b6, b7] = #[k, .int .i64 s, .int .i64 t, .bool b0, .bool b1, .bool b2, .bool b3, .bool b4, .bool b5, .bool b6, .bool b7] := rfl
/-- a channel of what was met -/
theorem chan_met (vk : Value) (key : List Int) (s : Int) (v : Value) (t : Int) (l : List Bool) (w : World) (hk : Sl w vk key) (lk : key.length ≤ 100000) (hL : w.ownsRow 0 3 1 v (metL t l 8).length ((metL t l 8).map (Value.int .i64))) (t0 : 0 ≤ t) (t1 : t ≤ 1073741824) :
    Calls Tryz.prog 58 #[vk, .int .i64 s, v] w fun e w' => ∃ v', e = .returned (.agg (chA v' s (chT (metL t l 8)) (chS (metL t l 8)))) ∧ w'.ownsRow 0 5 1 v' key.length (key.map (Value.int .u8)) ∧ Below w.heap.size w w' := by
  have hml := metL_length t l 8
  refine chan_any vk key s v (metL t l 8) w hk lk (Zl.ofOwns hL (by omega) fun x hx => by have := metL_range x hx; omega) (fun x hx => ?_) (by omega)
  have h1 := metL_range x hx
  have h2 := metL_lastmax t l x hx
  omega

set_option maxHeartbeats 4000000 in
set_option maxRecDepth 100000 in
theorem chfault_any (vk : Value) (key : List Int) (s t : Int) (l : List Bool) (w : World) (hk : Sl w vk key) (hl : l.length = 8) :
    Calls Tryz.prog 55 #[.agg (chA vk s t l)] w fun e w' => e = .returned (.int .i64 (checkE key s t l)) ∧ Below w.heap.size w w' := by
  obtain ⟨ak, ck, rfl⟩ := hk.shape
  have hkl := hk.len
  have bb : Below w.heap.size w (w.alloc (.cells (chA (.slice ak key.length ck) s t l) 55)) := (Below.refl _ _).alloc (Nat.le_refl _) _
  have HM := may_again t l hl
  have HC := @chS_met t l hl
  obtain ⟨x0, x1, x2, x3, x4, x5, x6, x7, rfl⟩ := eight l hl
  by_cases h1 : key.length = 32
  · have HK : Hid (key.length = 32) := h1
    obtain ⟨E, hE⟩ : ∃ E, checkE key s t [x0, x1, x2, x3, x4, x5, x6, x7] = E := ⟨_, rfl⟩
    have HE : Hid (checkE key s t [x0, x1, x2, x3, x4, x5, x6, x7] = E) := hE
    rw [hE]
    clear hE
    have bb0 := bb
    have dd := Dc.made w (.slice ak key.length ck) s t [x0, x1, x2, x3, x4, x5, x6, x7]
    simp only [chA, List.map] at bb ⊢
    rw [h1] at bb bb0 hk dd ⊢
    clear h1
    go_enter Tryz.func55, Tryz.ntmps55
    go_wp2_with fail
    refine (in_anyL s 0 1073741824 _).mono ?_
    rintro e w1 ⟨rfl, rfl⟩
    by_cases h2 : 0 ≤ s ∧ s ≤ 1073741824
    · rw [decide_eq_true h2]
      go_wp2_with fail
      refine (in_anyL t 0 1073741824 _).mono ?_
      rintro e w1 ⟨rfl, rfl⟩
      by_cases h3 : 0 ≤ t ∧ t ≤ 1073741824
      · rw [decide_eq_true h3]
        go_wp2_with fail
        refine (met_any (.slice ak 32 ck) s t [x0, x1, x2, x3, x4, x5, x6, x7] _ rfl h3.1 h3.2).mono ?_
        rintro e w2 ⟨vm, rfl, om, c2⟩
        have d2 : Below w.heap.size w w2 := bb0.trans (c2.mono (by simp))
        replace dd := dd.below c2
        replace om := owns_lower om (Nat.zero_le _)
        have k0 := dd.c0
        have k1 := dd.c1
        clear c2 bb bb0
        have hml := metL_length t [x0, x1, x2, x3, x4, x5, x6, x7] 8
        go_wp2_with fail
        refine (chan_met (.slice ak 32 ck) key s vm t [x0, x1, x2, x3, x4, x5, x6, x7] w2 (hk.below d2) (by have := HK.out; omega) om h3.1 h3.2).mono ?_
        rintro e w3 ⟨v3, rfl, o3, c3⟩
        have d3 : Below w.heap.size w w3 := d2.trans (c3.mono d2.size)
        replace dd := dd.below c3
        have om3 : w3.ownsRow 0 3 1 vm (metL t [x0, x1, x2, x3, x4, x5, x6, x7] 8).length ((metL t [x0, x1, x2, x3, x4, x5, x6, x7] 8).map (Value.int .i64)) := owns_keepB om fun k hk' => c3.block k (om.lt k hk').2
        clear om c3 k0 k1
        obtain ⟨a3, n3, hv3⟩ : ∃ a c, v3 = .slice a key.length c := by
          rcases o3.2 with ⟨rfl, h0⟩ | ⟨g, cap, cur, rfl, _⟩
          · exact ⟨none, 0, by rw [h0]⟩
          · exact ⟨_, cap, rfl⟩
        rw [HK.out] at hv3
        subst hv3
        have zm := Zl.ofOwns om3 (by omega) (fun x hx => by have := metL_range x hx; omega)
        have hmay : mayB t [x0, x1, x2, x3, x4, x5, x6, x7] = true ↔ ((metL t [x0, x1, x2, x3, x4, x5, x6, x7] 8 = [] ∨ 0 ≤ (metL t [x0, x1, x2, x3, x4, x5, x6, x7] 8).getD 0 0) ∧ chT (metL t [x0, x1, x2, x3, x4, x5, x6, x7] 8) = t) := HM
        have hmet : chT (metL t [x0, x1, x2, x3, x4, x5, x6, x7] 8) = t → chS (metL t [x0, x1, x2, x3, x4, x5, x6, x7] 8) = [x0, x1, x2, x3, x4, x5, x6, x7] := HC
        have hrg : ∀ x ∈ metL t [x0, x1, x2, x3, x4, x5, x6, x7] 8, t - 8 ≤ x ∧ x < t := fun x hx => metL_range x hx
        generalize metL t [x0, x1, x2, x3, x4, x5, x6, x7] 8 = L at zm hmay hmet hml hrg ⊢
        have HNO : Hid (¬ ((L = [] ∨ 0 ≤ L.getD 0 0) ∧ chT L = t) → 5 = E) := fun hno => HE.out ▸ (checkE_noD (fun h => hno (hmay.1 ((mayB_iff t [x0, x1, x2, x3, x4, x5, x6, x7]).2 ⟨h.low, h.top⟩)))).symm
        have HYES : Hid ((L = [] ∨ 0 ≤ L.getD 0 0) ∧ chT L = t → 0 = E) := fun hy => HE.out ▸ (checkE_okD (okC_ofD HK.out h2 h3 (hmay.2 hy))).symm
        have hSl := chS_length L
        obtain ⟨am, cm, hvm, hcm⟩ := zm.shape
        subst hvm
        obtain ⟨j0, j1, j2, j3, j4, j5, j6, j7, j8, j9, j10⟩ := chA_cells dd.row
        have hbox := dd.lt
        have hTr : -8 ≤ chT L ∧ chT L ≤ 1073741825 := by
          unfold chT
          rcases hgl : L.getLast? with _ | x
          · simp
          · have := hrg x (List.mem_of_getLast? hgl)
            simp
            omega
        clear HM HC hmay hrg dd o3
        by_cases hT : chT L = t
        · rw [hT, hmet hT, chA_lit8]
          have hneq := sn_neq [x0, x1, x2, x3, x4, x5, x6, x7] [x0, x1, x2, x3, x4, x5, x6, x7] rfl rfl
          rw [decide_eq_true rfl] at hneq
          simp only [snA, List.map, Bool.not_true] at hneq
          by_cases hnil : L.length = 0
          · have H0 : Hid (0 = E) := HYES.out ⟨.inl (List.eq_nil_of_length_eq_zero hnil), hT⟩
            rw [hnil]
            clear hmet hT HNO HYES
            go_wp2
            go_ret
            exact ⟨ret_num H0.out, d3.alloc d3.size _⟩
          · obtain ⟨zb, zo, haz, hzb, hz, _, _⟩ := zm.spot (Below.refl _ _) 0 (by omega)
            subst haz
            have hl1 : (0 : Int) < (L.length : Int) := by omega
            rw [Nat.add_zero] at hz
            by_cases hneg : L.getD 0 0 < 0
            · have H5 : Hid (5 = E) := HNO.out (fun h => by
                rcases h.1 with h | h
                · rw [h] at hnil; simp at hnil
                · omega)
              generalize L.getD 0 0 = f0 at hz hneg
              clear hmet hT HNO HYES hneq
              go_wp2
              go_ret
              exact ⟨ret_num H5.out, d3.alloc d3.size _⟩
            · have H0 : Hid (0 = E) := HYES.out ⟨.inr (by omega), hT⟩
              generalize L.getD 0 0 = f0 at hz hneg
              clear hmet hT HNO HYES
              go_wp2
              go_ret
              exact ⟨ret_num H0.out, d3.alloc d3.size _⟩
        · have H5 : Hid (5 = E) := HNO.out (fun h => hT h.2)
          generalize chS L = S at hSl
          obtain ⟨y0, y1, y2, y3, y4, y5, y6, y7, rfl⟩ := eight S hSl
          rw [chA_lit8]
          generalize chT L = T at hT hTr
          by_cases hnil : L.length = 0
          · rw [hnil]
            clear hmet HNO HYES
            go_wp2
            go_ret
            exact ⟨ret_num H5.out, d3.alloc d3.size _⟩
          · obtain ⟨zb, zo, haz, hzb, hz, _, _⟩ := zm.spot (Below.refl _ _) 0 (by omega)
            subst haz
            have hl1 : (0 : Int) < (L.length : Int) := by omega
            rw [Nat.add_zero] at hz
            by_cases hneg : L.getD 0 0 < 0
            · generalize L.getD 0 0 = f0 at hz hneg
              clear hmet HNO HYES
              go_wp2
              go_ret
              exact ⟨ret_num H5.out, d3.alloc d3.size _⟩
            · generalize L.getD 0 0 = f0 at hz hneg
              clear hmet HNO HYES
              go_wp2
              go_ret
              exact ⟨ret_num H5.out, d3.alloc d3.size _⟩
      · rw [decide_eq_false h3]
        have H5 : Hid (5 = E) := HE.out ▸ (checkE_noD (fun h => h3 ⟨h.t0, h.t1⟩)).symm
        go_wp2
        go_ret
        exact ⟨ret_num H5.out, bb⟩
    · rw [decide_eq_false h2]
      have H5 : Hid (5 = E) := HE.out ▸ (checkE_noD (fun h => h2 ⟨h.s0, h.s1⟩)).symm
      go_wp2
      go_ret
      exact ⟨ret_num H5.out, bb⟩
  · have HE : Hid (checkE key s t [x0, x1, x2, x3, x4, x5, x6, x7] = 5) := checkE_noD fun h => h1 h.key
    have h1' : ¬ (key.length : Int) = 32 := by omega
    simp only [chA, List.map] at bb ⊢
    go_enter Tryz.func55, Tryz.ntmps55
    go_wp2
    go_ret
    exact ⟨ret_num HE.out.symm, bb⟩
end Go.Proofs.YtakgfdbjgeopdaaGreatDoor
