/-
  The walk of the law LineNews.
-/
import Derived.Test.YtpoaabjpeigooaaCheckP
import Derived.Test.YtpoaabjpeigooaaDocNew
import Derived.Test.YtpoaabjpeigooaaLawChan
namespace Go.Proofs.Ytpoaabjpeigooaa
open Go.RowKit
set_option linter.unusedVariables false

set_option maxHeartbeats 1000000 in
set_option maxRecDepth 100000 in
theorem lineNews_walk (vk : Value) (key : List Int) (w : World) (hk : Sl w vk key) :
    Calls Try.prog 4 #[vk] w fun e w' => e = .returned (.bool true) ∧ Below w.heap.size w w' := by
  go_enter Try.func4, Try.ntmps4
  go_wp2_with fail
  refine (octets_any vk key w hk).mono ?_
  rintro e w1 ⟨v1, rfl, o1, b1⟩
  have s1 := Sl.ofOwns o1 hk.len hk.byte
  go_wp2_with fail
  refine (new_any v1 key w1 s1).mono ?_
  rintro e w2 ⟨v2, rfl, o2, c2⟩
  have b2 : Below w.heap.size w w2 := b1.trans (c2.mono b1.size)
  obtain ⟨K, hK⟩ : ∃ K, (if key.length = 32 then key else []) = K := ⟨_, rfl⟩
  have hKl : K.length ≤ 140737488351232 ∧ ∀ x ∈ K, 0 ≤ x ∧ x < 256 := by
    subst hK
    split
    · exact ⟨hk.len, hk.byte⟩
    · simp
  obtain ⟨E, hE⟩ : ∃ E : Int, (if key.length = 32 then (0 : Int) else 1) = E := ⟨_, rfl⟩
  have HK : Hid ((if key.length = 32 then key else []) = K) := hK
  have HE : Hid ((if key.length = 32 then (0 : Int) else 1) = E) := hE
  rw [hK] at o2
  rw [hE]
  clear hK hE o1 s1 c2
  have s2 := Sl.ofOwns o2 hKl.1 hKl.2
  have hi2 := chInfoD (k := v2) (s := 0) (t := 0) noB_length
  have ho2 := chA_slice s2 0 0 noB
  have hold2 : (chA (.slice none 0 0) 0 0 noB).size = (chA v2 0 0 noB).size := by rw [chA_size, chA_size]
  have r2 := (Dc.made w2 (.slice none 0 0) 0 0 noB).row
  go_wp2_with (refine wpList_store_row rfl 25 _ _ rfl w2.heap.size _ rfl rfl 25 _ r2 hi2 hold2 ho2 ?_)
  clear r2
  obtain ⟨d3, c3⟩ := Dc.var w2 v2 0 0 noB
  generalize (w2.alloc (.cells #[.slice none 0 0, .int .i64 0, .int .i64 0, .bool false, .bool false, .bool false, .bool false, .bool false, .bool false, .bool false, .bool false] 25)).setRow w2.heap.size (chA v2 0 0 noB) = w3 at d3 c3 ⊢
  have b3 : Below w.heap.size w w3 := b2.trans (c3.mono b2.size)
  have s3 := s2.below c3
  have hg2 := b2.size
  generalize w2.heap.size = g2 at d3 hg2 ⊢
  clear c3 s2 o2 b2
  refine (refnew_any vk key w3 (hk.below b3)).mono ?_
  rintro e w4 ⟨v4, rfl, o4, c4⟩
  rw [HK.out] at o4
  rw [HE.out]
  have b4 : Below w.heap.size w w4 := b3.trans (c4.mono b3.size)
  replace d3 := d3.below c4
  replace s3 := s3.below c4
  have s4 := Sl.ofOwns o4 hKl.1 hKl.2
  have hi4 := chInfoD (k := v4) (s := 0) (t := 0) noB_length
  have ho4 := chA_slice s4 0 0 noB
  have hold4 : (chA (.slice none 0 0) 0 0 noB).size = (chA v4 0 0 noB).size := by rw [chA_size, chA_size]
  have r4 := (Dc.made w4 (.slice none 0 0) 0 0 noB).row
  clear c4 b3 o4
  obtain ⟨d5, c5⟩ := Dc.var w4 v4 0 0 noB
  have d35 := d3.below c5
  go_upto_region 3 with (refine wpList_store_row rfl 25 _ _ rfl w4.heap.size _ rfl rfl 25 _ r4 hi4 hold4 ho4 ?_)
  generalize (w4.alloc (.cells #[.slice none 0 0, .int .i64 0, .int .i64 0, .bool false, .bool false, .bool false, .bool false, .bool false, .bool false, .bool false, .bool false] 25)).setRow w4.heap.size (chA v4 0 0 noB) = w5 at d5 d35 c5 ⊢
  generalize w4.heap.size = g4 at d5 ⊢
  obtain ⟨i0, i1, i2, i3, i4, i5, i6, i7, i8, i9, i10⟩ := chA_cells (b0 := false) (b1 := false) (b2 := false) (b3 := false) (b4 := false) (b5 := false) (b6 := false) (b7 := false) d35.row
  obtain ⟨j0, j1, j2, j3, j4, j5, j6, j7, j8, j9, j10⟩ := chA_cells (b0 := false) (b1 := false) (b2 := false) (b3 := false) (b4 := false) (b5 := false) (b6 := false) (b7 := false) d5.row
  go_wp2_with fail
  refine (same_chan v2 v4 K 0 0 noB _ (s3.below c5) (s4.below c5) noB_length).mono ?_
  rintro e w6 ⟨rfl, c6⟩
  have b6 : Below w.heap.size w w6 := (b4.trans (c5.mono b4.size)).trans (c6.mono (b4.trans (c5.mono b4.size)).size)
  go_wp2
  go_ret
  exact ⟨rfl, b6⟩
end Go.Proofs.Ytpoaabjpeigooaa
