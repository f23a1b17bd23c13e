/-
  The walks of the laws' own copy of a channel and comparison of two, and of the document's new channel.
-/
import Derived.Test.YtpoaabjpeigooaaChanWalk
import Derived.Test.YtpoaabjpeigooaaSeenLaws
import Derived.Test.YtpoaabjpeigooaaLawWalk
namespace Go.Proofs.Ytpoaabjpeigooaa
open Go.RowKit
set_option linter.unusedVariables false

/-- a variable that holds a channel is made -/
theorem Dc.var (W : World) (k : Value) (s t : Int) (l : List Bool) : Dc ((W.alloc (.cells #[.slice none 0 0, .int .i64 0, .int .i64 0, .bool false, .bool false, .bool false, .bool false, .bool false, .bool false, .bool false, .bool false] 25)).setRow W.heap.size (chA k s t l)) W.heap.size k s t l ∧ Below W.heap.size W ((W.alloc (.cells #[.slice none 0 0, .int .i64 0, .int .i64 0, .bool false, .bool false, .bool false, .bool false, .bool false, .bool false, .bool false, .bool false] 25)).setRow W.heap.size (chA k s t l)) :=
  ⟨⟨setRow_heap _ _ _ _ _ _ (Dc.made W (.slice none 0 0) 0 0 noB).row⟩, below_setRow ((Below.refl _ _).alloc (Nat.le_refl _) _) (Nat.le_refl _) _⟩
theorem chA_slice {w : World} {k : Value} {key : List Int} (hk : Sl w k key) (s t : Int) (l : List Bool) : (chA k s t l).all (·.oneCell') = true := by
  obtain ⟨a, c, rfl⟩ := hk.shape
  simp [chA, Value.oneCell']

set_option maxHeartbeats 1000000 in
set_option maxRecDepth 100000 in
theorem channels_any (vk : Value) (key : List Int) (s t : Int) (l : List Bool) (w : World) (hk : Sl w vk key) (hl : l.length = 8) :
    Calls Try.prog 6 #[.agg (chA vk s t l)] w fun e w' => ∃ v', e = .returned (.agg (chA v' s t l)) ∧ w'.ownsRow 0 5 1 v' key.length (key.map (Value.int .u8)) ∧ Below w.heap.size w w' := by
  have hz : (w.alloc (.cells (chA vk s t l) 25)).heap.size = w.heap.size + 1 := by simp
  have bA : Below (w.alloc (.cells (chA vk s t l) 25)).heap.size (w.alloc (.cells (chA vk s t l) 25)) ((w.alloc (.cells (chA vk s t l) 25)).alloc (.cells (chA (.slice none 0 0) 0 0 noB) 25)) := (Below.refl _ _).alloc (Nat.le_refl _) _
  have bb : Below w.heap.size w ((w.alloc (.cells (chA vk s t l) 25)).alloc (.cells (chA (.slice none 0 0) 0 0 noB) 25)) := ((Below.refl _ _).alloc (Nat.le_refl _) _).trans (bA.mono (by rw [hz]; omega))
  have dC := (Dc.made w vk s t l).below bA
  have dR := Dc.made (w.alloc (.cells (chA vk s t l) 25)) (.slice none 0 0) 0 0 noB
  have hz2 : ((w.alloc (.cells (chA vk s t l) 25)).alloc (.cells (chA (.slice none 0 0) 0 0 noB) 25)).heap.size = w.heap.size + 2 := by simp
  rw [hz] at dR
  clear bA hz
  have c0 := dC.c0
  obtain ⟨ak, ck, rfl⟩ := hk.shape
  have hlk := hk.len
  generalize hnk : key.length = nk at hk dC dR bb hz2 c0 ⊢
  have HNK : Hid (key.length = nk) := hnk
  clear hnk
  rw [chA_litD] at c0
  go_enter Try.func6, Try.ntmps6
  go_wp2_with fail
  refine (octets_any _ key _ (hk.below bb)).mono ?_
  rintro e w1 ⟨v1, rfl, o1, c1⟩
  rw [HNK.out, hz2] at o1
  replace dC := dC.below c1
  replace dR := dR.below c1
  replace bb : Below w.heap.size w w1 := bb.trans (c1.mono (by omega))
  clear c0 c1 hz2
  obtain ⟨a1, n1, hv1⟩ : ∃ a c, v1 = .slice a nk c := by
    rcases o1.2 with ⟨rfl, h0⟩ | ⟨g, cap, cur, rfl, _⟩
    · exact ⟨none, 0, by rw [h0]⟩
    · exact ⟨_, cap, rfl⟩
  subst hv1
  have c0 := dC.c0
  have f0 := dC.fr 0
  go_upto_region 2 with fail
  have o3 : (w1.setCell ⟨w.heap.size, 0, none⟩ (.slice a1 nk n1)).ownsRow 0 5 1 (.slice a1 nk n1) nk (key.map (Value.int .u8)) := owns_keepB (owns_lower o1 (Nat.zero_le _)) fun k hk' => heap_setCell_other _ _ _ _ (by have := o1.lt k hk'; show k ≠ w.heap.size; omega)
  have HOG : Hid (∀ k, (Value.slice a1 nk n1).ownBlock = some k → w.heap.size + 2 ≤ k ∧ k < w1.heap.size) := o1.lt
  have dC3 := dC.key (.slice a1 nk n1)
  have dR3 := dR.other w.heap.size 0 (.slice a1 nk n1) (by omega)
  have e3 := bb.setCell (p := ⟨w.heap.size, 0, none⟩) (Nat.le_refl _) (.slice a1 nk n1)
  generalize w1.setCell ⟨w.heap.size, 0, none⟩ (.slice a1 nk n1) = W3 at o3 dC3 dR3 e3 ⊢
  clear dC dR o1 bb c0 f0
  have hi2 := chInfoD (k := .slice a1 nk n1) (s := s) (t := t) hl
  have ho2 := chA_oneD a1 nk n1 s t l
  have hold : (chA (.slice none 0 0) 0 0 noB).size = (chA (.slice a1 nk n1) s t l).size := by rw [chA_size, chA_size, hl]; rfl
  go_wp2_with (first
    | (refine wpList_load_row rfl 25 _ rfl w.heap.size rfl 25 _ (0, 0) _ dC3.row Try.underlying25 rfl hi2 ?_)
    | (refine wpList_store_row rfl 25 _ _ rfl (w.heap.size + 1) _ rfl rfl 25 _ dR3.row hi2 hold ho2 ?_))
  have r2 := setRow_heap W3 (w.heap.size + 1) _ (chA (.slice a1 nk n1) s t l) 25 _ dR3.row
  exact bodyPost_ret (v := .agg (chA (.slice a1 nk n1) s t l)) (results_cell_row rfl _ _ (w.heap.size + 1) 25 _ (0, 0) _ rfl r2 Try.underlying25 rfl hi2) rfl ⟨.slice a1 nk n1, rfl, owns_keepB o3 fun k hk' => setRow_other _ _ _ _ (by have := HOG.out k hk'; omega), below_setRow e3 (by omega) _⟩

set_option maxHeartbeats 1000000 in
set_option maxRecDepth 100000 in
/-- two channels that are the same are found to be -/
theorem same_chan (va vb : Value) (key : List Int) (s t : Int) (l : List Bool) (w : World) (ha : Sl w va key) (hb : Sl w vb key) (hl : l.length = 8) :
    Calls Try.prog 11 #[.agg (chA va s t l), .agg (chA vb s t l)] w fun e w' => e = .returned (.bool true) ∧ Below w.heap.size w w' := by
  obtain ⟨x0, x1, x2, x3, x4, x5, x6, x7, rfl⟩ := eight l hl
  have hs := sn_eql [x0, x1, x2, x3, x4, x5, x6, x7] [x0, x1, x2, x3, x4, x5, x6, x7] rfl rfl
  rw [decide_eq_true rfl] at hs
  simp only [snA, List.map] at hs
  have bb : Below w.heap.size w ((w.alloc (.cells (chA va s t [x0, x1, x2, x3, x4, x5, x6, x7]) 25)).alloc (.cells (chA vb s t [x0, x1, x2, x3, x4, x5, x6, x7]) 25)) := ((Below.refl _ _).alloc (Nat.le_refl _) _).alloc (by simp) _
  simp only [chA, List.map] at bb ⊢
  go_enter Try.func11, Try.ntmps11
  go_wp2_with fail
  refine (law_same va vb key key _ (ha.below bb) (hb.below bb)).mono ?_
  rintro e w1 ⟨rfl, rfl⟩
  rw [decide_eq_true rfl]
  go_wp2
  go_ret
  exact ⟨rfl, bb⟩
end Go.Proofs.Ytpoaabjpeigooaa
