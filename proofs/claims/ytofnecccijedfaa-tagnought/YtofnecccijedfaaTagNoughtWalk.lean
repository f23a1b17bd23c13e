/-
  The walk of the law TagNought.
-/
import Derived.Test.YtofnecccijedfaaTagLaws
import Derived.Test.YtofnecccijedfaaPFillWalk
import Derived.Test.YtofnecccijedfaaKeepWalk
namespace Go.Proofs.Ytofnecccijedfaa
open Go.RowKit

set_option maxHeartbeats 2000000 in
theorem tagNought_walk (v0 : Value) (l0 : List Int) (v1 : Value) (l1 : List Int) (w : World) (h0 : Sl w v0 l0) (h1 : Sl w v1 l1) :
    Calls Try.prog 4 #[v0, v1] w fun e w' => e = .returned (.bool true) ∧ Below w.heap.size w w' := by
  go_enter Try.func4, Try.ntmps4
  go_wp2_with fail
  refine (fill_any v0 l0 32 w h0 (by omega)).mono ?_
  rintro e w1 ⟨vk, rfl, ok, c1⟩
  have lk := fillL_length l0 32
  have yk := fillL_byte h0.byte 32
  have sk : Sl w1 vk (fillL l0 32) := Sl.ofOwns ok (by omega) yk
  generalize fillL l0 32 = K at lk sk yk
  clear ok
  obtain ⟨ak, ck, rfl⟩ := sk.aShape
  rw [lk] at sk ⊢
  obtain ⟨a2, c2, hc2', s2⟩ := sk.from 16 (by omega)
  have hc2 : ∀ W, (Instr.slice 22 (.slice ak 32 ck) (some (.int .i64 16)) none none).run Try.prog W = .ok (.slice a2 16 c2) W := hc2'
  obtain ⟨a3, c3, hc3', s3⟩ := sk.upTo 31 (by omega)
  have hc3 : ∀ W, (Instr.slice 22 (.slice ak 32 ck) none (some (.int .i64 31)) none).run Try.prog W = .ok (.slice a3 31 c3) W := hc3'
  clear hc2' hc3'
  obtain ⟨i0, hi0, hz0, hz1, hz2⟩ := info_parts info5
  have l2 : (K.drop 16).length = 16 := by rw [List.length_drop]; omega
  have l3 : (K.take 31).length = 31 := by rw [List.length_take]; omega
  have y2 : ∀ x ∈ K.drop 16, 0 ≤ x ∧ x < 256 := fun x hx => yk x (List.mem_of_mem_drop hx)
  have HN := tagL_nil K lk yk
  have HZ := tagL_nought (K.drop 16) (l1.take 200) l2 y2
  have HNH : Hid (tagL K [] = K.drop 16) := HN
  have HZH : Hid (tagL (List.replicate 16 0 ++ K.drop 16) (l1.take 200) = K.drop 16) := HZ
  clear HN HZ
  generalize K.drop 16 = S at s2 l2 y2 HNH HZH
  generalize K.take 31 = K31 at s3 l3
  go_wp2_with (at_make; refine wpList_make_full _ rfl _ _ 22 rfl w1.heap.size 5 i0 (.int .u8 0) 1 Try.underlying22 hi0 hz0 hz1 _ _ _ _ 16 rfl rfl (by omega) (by omega) (by rw [hz2]; omega) (by unfold maxLen; omega) (by simp) ?_)
  intro w2 ho2 hg2
  have b2 : Below w1.heap.size w1 w2 := (Below.refl _ _).grown hg2 (Nat.le_refl _) (by simp)
  have hrow : (madeCells #[Value.int .u8 0] 16).toList = (List.replicate 16 (0 : Int)).map (Value.int .u8) := by kernel_rfl
  rw [hrow] at ho2
  clear hrow hg2 hi0 hz0 hz1 hz2
  obtain ⟨Z, hZ⟩ : ∃ Z, Z = List.replicate 16 (0 : Int) := ⟨_, rfl⟩
  have lZ : Z.length = 16 := by rw [hZ]; rfl
  have yZ : ∀ x ∈ Z, 0 ≤ x ∧ x < 256 := fun x hx => by rw [hZ] at hx; rw [(List.mem_replicate.1 hx).2]; omega
  rw [← hZ] at ho2 HZH
  replace ho2 : w2.ownsRow w1.heap.size 5 1 (.slice (some ⟨w1.heap.size, 0, none⟩) 16 16) Z.length (Z.map (Value.int .u8)) := by rw [lZ]; exact ho2
  have HLZ : Hid (Z.length = 16) := lZ
  clear hZ
  go_wp2_with (at_builtin; refine wpList_append_sl _ rfl _ _ 22 rfl w1.heap.size 5 Try.underlying22 info5 _ _ rfl rfl Z S ho2 (s2.below b2) (by omega) (by have := b2.size; omega) ?_)
  intro va w3 ho3 hg3
  have b3 : Below w1.heap.size w1 w3 := b2.grown hg3 (by have := b2.size; omega) (fun k hk => (ho2.lt k hk).1)
  have ho3' : w3.ownsRow w1.heap.size 5 1 va (Z ++ S).length ((Z ++ S).map (Value.int .u8)) := by simpa [lZ, l2] using ho3
  have sa : Sl w3 va (Z ++ S) := by
    refine Sl.ofOwns ho3' (by simp; omega) ?_
    intro x hx
    rcases List.mem_append.1 hx with h | h
    · exact yZ x h
    · exact y2 x h
  have la : (Z ++ S).length = 32 := by simp; omega
  have HLA : Hid _ := la
  clear ho3 ho3' hg3 ho2 la
  generalize Z ++ S = A at sa HZH HLA
  have d3 : Below w.heap.size w w3 := c1.trans (b3.mono c1.size)
  go_wp2_with fail
  refine (some_any v1 l1 200 w3 (h1.below d3) (by omega)).mono ?_
  rintro e w4 ⟨vp, rfl, op, c4⟩
  have lp : (l1.take 200).length ≤ 200 := by rw [List.length_take]; omega
  have yp : ∀ x ∈ l1.take 200, 0 ≤ x ∧ x < 256 := fun x hx => h1.byte x (List.mem_of_mem_take hx)
  have sp : Sl w4 vp (l1.take 200) := Sl.ofOwns op (by omega) yp
  generalize l1.take 200 = P at lp yp sp HZH
  clear op
  have d4 : Below w1.heap.size w1 w4 := b3.trans (c4.mono b3.size)
  go_wp2_with fail
  refine (tag_ok va vp A P w4 (sa.below c4) sp HLA.out (by omega)).mono ?_
  rintro e w5 ⟨vx, rfl, sx, b5⟩
  rw [HZH.out] at sx
  have d5 : Below w1.heap.size w1 w5 := d4.trans (b5.mono d4.size)
  clear sa sp
  go_wp2_with fail
  refine (tag_ok _ _ K [] w5 (sk.below d5) (Sl.nil _ _) lk (by simp)).mono ?_
  rintro e w6 ⟨vy, rfl, sy, b6⟩
  rw [HNH.out] at sy
  have d6 : Below w1.heap.size w1 w6 := d5.trans (b6.mono d5.size)
  go_wp2_with fail
  refine (tag_no _ _ K31 [] w6 (s3.below d6) (Sl.nil _ _) (by omega)).mono ?_
  rintro e w7 ⟨rfl, rfl⟩
  replace sx := sx.below b6
  replace s2 := s2.below d6
  have dd : Below w.heap.size w w7 := c1.trans (d6.mono c1.size)
  clear d6 d5 d4 d3 b5 b6 b3 b2 c4 hc2 hc3 s3 sk h0 h1 c1 HZH HNH HLA
  go_wp2_with fail
  refine (keep_same _ _ S S w7 sx s2).mono ?_
  rintro e w8 ⟨rfl, rfl⟩
  rw [decide_eq_true rfl]
  go_wp2_with fail
  refine (keep_same _ _ S S w8 sy s2).mono ?_
  rintro e w9 ⟨rfl, rfl⟩
  rw [decide_eq_true rfl]
  go_wp2
  go_ret
  exact ⟨rfl, dd⟩
end Go.Proofs.Ytofnecccijedfaa
