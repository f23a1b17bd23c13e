/-
  The walks of a token's bytes, and of Grant.
-/
import Derived.Test.YtakgfdbjgeopdabDoorKm27
import Derived.Test.YtakgfdbjgeopdabDoorKm19
import Derived.Test.YtakgfdbjgeopdabDoorKm20
import Derived.Test.YtakgfdbjgeopdabDoorKm26
import Derived.Test.YtakgfdbjgeopdabDoorKm1
import Derived.Test.YtakgfdbjgeopdabDoorKm3
namespace Go.Proofs.YtakgfdbjgeopdabDoor
open Go.RowKit
set_option linter.unusedVariables false

/-- a token's bytes -/
def tokL (key : List Int) (c r u : Int) : List Int := tokH c r u ++ (macL key (tokH c r u)).take 16
theorem take16_length (key b : List Int) : ((macL key b).take 16).length = 16 := by rw [List.length_take, macL_length]; rfl
theorem tokL_length (key : List Int) (c r u : Int) : (tokL key c r u).length = 22 := by unfold tokL; rw [List.length_append, take16_length, tokH_length]
theorem take16_byte (key b : List Int) : ∀ x ∈ (macL key b).take 16, 0 ≤ x ∧ x < 256 := fun x hx => macL_byte key b x (List.mem_of_mem_take hx)
theorem tokL_byte (key : List Int) {c r u : Int} (h : TokB c r u) : ∀ x ∈ tokL key c r u, 0 ≤ x ∧ x < 256 := by
  intro x hx
  rcases List.mem_append.1 hx with hx | hx
  · exact tokH_byte h x hx
  · exact take16_byte _ _ x hx
/-- what Grant says, and what it makes -/
def graE (key : List Int) (c r u : Int) : Int := if key.length ≠ 32 then 1 else tokE c r u
def graL (key : List Int) (c r u : Int) : List Int := if graE key c r u = 0 then tokL key c r u else []
theorem graE_size {key : List Int} {c r u : Int} (h : ¬ key.length = 32) : graE key c r u = 1 := if_pos h
theorem graE_tok {key : List Int} {c r u : Int} (h : key.length = 32) : graE key c r u = tokE c r u := if_neg (fun g => g h)
theorem graL_ok {key : List Int} {c r u : Int} (h : graE key c r u = 0) : graL key c r u = tokL key c r u := if_pos h
theorem graL_no {key : List Int} {c r u : Int} (h : ¬ graE key c r u = 0) : graL key c r u = [] := if_neg h

set_option maxHeartbeats 1000000 in
set_option maxRecDepth 100000 in
theorem headOf_tok (c r u : Int) (w : World) (h : TokB c r u) :
    Calls Tryd.prog 25 #[.agg (tkA c r u)] w fun e w' => ∃ v', e = .returned v' ∧ w'.ownsRow w.heap.size 5 1 v' (tokH c r u).length ((tokH c r u).map (Value.int .u8)) ∧ Below w.heap.size w w' := by
  have bb : Below w.heap.size w (w.alloc (.cells (tkA c r u) 35)) := (Below.refl _ _).alloc (Nat.le_refl _) _
  have bt := Bt.made w c r u
  generalize hW : w.alloc (.cells (tkA c r u) 35) = W at bb bt
  obtain ⟨c0, c1, c2⟩ := tkA_cells bt.row
  have lt := bt.lt
  clear bt
  obtain ⟨⟨hc0, hc1⟩, ⟨hr0, hr1⟩, hu0, hu1⟩ := h
  have m1 : c % 256 = c := by omega
  have m2 : r % 256 = r := by omega
  have HT : Hid (tokH c r u = [c, r] ++ headL u) := rfl
  have b1 : Below W.heap.size W (W.alloc (.cells #[.int .u8 c, .int .u8 r] 5)) := (Below.refl _ _).alloc (Nat.le_refl _) _
  have o1 : (W.alloc (.cells #[.int .u8 c, .int .u8 r] 5)).ownsRow W.heap.size 5 1 (.slice (some ⟨W.heap.size, 0, none⟩) 2 2) ([c, r] : List Int).length (([c, r] : List Int).map (Value.int .u8)) :=
    ⟨rfl, .inr ⟨W.heap.size, 2, #[.int .u8 c, .int .u8 r], rfl, Nat.le_refl _, heap_alloc_new _ _, by simp, by simp [maxLen], rfl, rfl⟩⟩
  have O1 : Hid ((W.alloc (.cells #[.int .u8 c, .int .u8 r] 5)).ownsRow W.heap.size 5 1 (.slice (some ⟨W.heap.size, 0, none⟩) 2 2) ([c, r] : List Int).length (([c, r] : List Int).map (Value.int .u8))) := o1
  clear o1
  generalize hW1 : W.alloc (.cells #[.int .u8 c, .int .u8 r] 5) = W1 at b1 O1
  have d2 : W1.cell? ⟨w.heap.size, 2, none⟩ = some (.int .i64 u) := (b1.cell (p := ⟨w.heap.size, 2, none⟩) lt).trans c2
  have d1 := bb.trans (b1.mono bb.size)
  have hz := b1.size
  go_enter Tryd.func25, Tryd.ntmps25
  go_wp2_with fail
  clear hW hW1
  refine (putNumber_any _ [c, r] u W.heap.size W1 O1.out hz (by simp) hu0 (by omega)).mono ?_
  rintro e w2 ⟨v2, rfl, o2, b2⟩
  have hwW := bb.size
  go_wp2
  go_ret
  exact ⟨_, rfl, owns_lower o2 hwW, d1.trans (b2.mono hwW)⟩

set_option maxHeartbeats 1000000 in
set_option maxRecDepth 100000 in
theorem tagOf_ok (vk vb : Value) (key b : List Int) (w : World) (hk : Sl w vk key) (hb : Sl w vb b) (lk : key.length ≤ 256) (lb : b.length ≤ 2000) (ht : TabAt w) :
    Calls Tryd.prog 26 #[vk, vb] w fun e w' => ∃ v', e = .returned (.tuple #[v', .int .i64 0]) ∧ Sl w' v' ((macL key b).take 16) ∧ Below w.heap.size w w' := by
  go_enter Tryd.func26, Tryd.ntmps26
  go_wp2_with fail
  refine (Mac_ok vk vb key b w hk hb lk lb ht).mono ?_
  rintro e w1 ⟨v1, rfl, f1⟩
  obtain ⟨s1, b1, g, cp, rfl, _, _⟩ := f1
  obtain ⟨a2, c2, r2', s2⟩ := s1.upTo 16 (by rw [macL_length]; omega)
  rw [macL_length] at r2' ⊢
  have r2 : ∀ W, (Instr.slice 23 (.slice (some ⟨g, 0, none⟩) 32 cp) none (some (.int .i64 16)) none).run Tryd.prog W = .ok (.slice a2 16 c2) W := r2'
  clear r2' s1
  go_wp2
  go_ret2
  exact ⟨_, rfl, s2, b1⟩

set_option maxHeartbeats 1000000 in
set_option maxRecDepth 100000 in
theorem grant_any (vk : Value) (key : List Int) (c r u : Int) (w : World) (hk : Sl w vk key) (ht : TabAt w) :
    Calls Tryd.prog 15 #[vk, .agg (tkA c r u)] w fun e w' => ∃ v', e = .returned (.tuple #[v', .int .i64 (graE key c r u)]) ∧ w'.ownsRow w.heap.size 5 1 v' (graL key c r u).length ((graL key c r u).map (Value.int .u8)) ∧ Below w.heap.size w w' := by
  have bb : Below w.heap.size w (w.alloc (.cells (tkA c r u) 35)) := (Below.refl _ _).alloc (Nat.le_refl _) _
  have bt := Bt.made w c r u
  have hi := tokInfo c r u
  have hlen := hk.len
  obtain ⟨ak, ck, rfl⟩ := hk.shape
  generalize hW : w.alloc (.cells (tkA c r u) 35) = W at bb bt
  by_cases h1 : key.length = 32
  · have HE := graE_tok (key := key) (c := c) (r := r) (u := u) h1
    have HK : Hid (key.length = 32) := h1
    rw [h1] at hk ⊢
    clear h1 hlen
    go_enter Tryd.func15, Tryd.ntmps15
    go_wp2_with (refine wpList_load_row rfl 35 _ rfl w.heap.size rfl 35 _ (0, 0) _ bt.row Tryd.underlying35 rfl hi ?_)
    clear hW
    refine (mayBe_tok c r u W).mono ?_
    rintro e w1 ⟨rfl, b1⟩
    have d1 := bb.trans (b1.mono bb.size)
    replace bt := bt.below b1
    clear b1 bb
    by_cases h2 : TokB c r u
    · have HZ : Hid (graE key c r u = 0) := HE.trans (tokE_ok h2)
      have HL : Hid (graL key c r u = tokL key c r u) := graL_ok HZ.out
      rw [decide_eq_true h2]
      clear HE
      go_wp2_with (refine wpList_load_row rfl 35 _ rfl w.heap.size rfl 35 _ (0, 0) _ bt.row Tryd.underlying35 rfl hi ?_)
      refine (headOf_tok c r u w1 h2).mono ?_
      rintro e w2 ⟨v2, rfl, o2, b2⟩
      have d2 := d1.trans (b2.mono d1.size)
      have s2 := Sl.ofOwns o2 (by rw [tokH_length]; omega) (tokH_byte h2)
      have z2 := b2.size
      go_wp2_with fail
      refine (tagOf_ok _ v2 key (tokH c r u) w2 (hk.below d2) s2 (by rw [HK.out]; omega) (by rw [tokH_length]; omega) (ht.below d2)).mono ?_
      rintro e w3 ⟨v3, rfl, s3, b3⟩
      have o3 := owns_belowO o2 b3
      have d3' : Below w1.heap.size w1 w3 := b2.trans (b3.mono z2)
      have z3 : w1.heap.size ≤ w3.heap.size := Nat.le_trans z2 b3.size
      have hlt := o3.lt
      have hy := s3.len
      have HT : Hid (tokL key c r u = tokH c r u ++ (macL key (tokH c r u)).take 16) := rfl
      have hx := tokH_length c r u
      clear o2 b3 d2 s2
      generalize (macL key (tokH c r u)).take 16 = Y at s3 HT hy
      generalize tokH c r u = X at o3 HT hx
      go_wp2_with (at_builtin; refine wpList_append_sl _ rfl _ _ 23 rfl w1.heap.size 5 Tryd.underlying23 info5 _ _ rfl rfl X Y o3 s3 (by omega) z3 ?_)
      intro v4 w4 o4 g4
      have d4 : Below w1.heap.size w1 w4 := d3'.grown g4 z3 (fun k hk => (hlt k hk).1)
      have HO : Hid (w4.ownsRow w1.heap.size 5 1 v4 (tokL key c r u).length ((tokL key c r u).map (Value.int .u8))) := by unfold Hid; rw [HT.out]; simpa [hx] using o4
      clear o4 g4
      go_wp2
      go_ret2
      rw [HL.out, HZ.out]
      exact ⟨_, rfl, owns_lower HO.out d1.size, d1.trans (d4.mono d1.size)⟩
    · have HZ : Hid (graE key c r u = 2) := HE.trans (tokE_no h2)
      have HL : Hid (graL key c r u = []) := graL_no (by rw [HZ.out]; omega)
      rw [decide_eq_false h2]
      go_wp2
      go_ret2
      rw [HL.out, HZ.out]
      exact ⟨_, rfl, World.ownsRow_nil _ _ _ _, d1⟩
  · have h1' : ¬ (key.length : Int) = 32 := by omega
    have HZ : Hid (graE key c r u = 1) := graE_size h1
    have HL : Hid (graL key c r u = []) := graL_no (by rw [HZ.out]; omega)
    go_enter Tryd.func15, Tryd.ntmps15
    go_wp2
    go_ret2
    rw [HL.out, HZ.out]
    exact ⟨_, rfl, World.ownsRow_nil _ _ _ _, bb⟩
end Go.Proofs.YtakgfdbjgeopdabDoor
/-
  What a client packs, in plain lists. No program is named here.
-/
namespace Go.Proofs.YtakgfdbjgeopdabDoor
set_option linter.unusedVariables false

def paE (n tc tr tu k c s m v : Int) : Int := if ¬ (0 ≤ n ∧ n < 1073741824) then 2 else if tokE tc tr tu ≠ 0 then tokE tc tr tu else comE k c s m v
/-- the token's bytes and the command's -/
def paP (tc tr tu k c s m v : Int) : List Int := tokL issL tc tr tu ++ comL k c s m v
def paL (n tc tr tu k c s m v : Int) : List Int := if paE n tc tr tu k c s m v = 0 then c :: recL (keyL c) n (paP tc tr tu k c s m v) else []
theorem paE_zero {n tc tr tu k c s m v : Int} (h : paE n tc tr tu k c s m v = 0) : (0 ≤ n ∧ n < 1073741824) ∧ TokB tc tr tu ∧ comE k c s m v = 0 := by
  unfold paE at h
  split at h
  · cases h
  · rename_i g1
    split at h
    · rename_i g; exact absurd h g
    · rename_i g2
      refine ⟨Decidable.not_not.1 g1, ?_, h⟩
      have g3 := Decidable.not_not.1 g2
      unfold tokE at g3
      split at g3
      · assumption
      · cases g3
theorem paE_ok {n tc tr tu k c s m v : Int} (h1 : 0 ≤ n ∧ n < 1073741824) (h2 : tokE tc tr tu = 0) : paE n tc tr tu k c s m v = comE k c s m v := by
  unfold paE; rw [if_neg (fun g => g h1), if_neg (fun g => g h2)]
theorem paL_ok {n tc tr tu k c s m v : Int} (h : paE n tc tr tu k c s m v = 0) : paL n tc tr tu k c s m v = c :: recL (keyL c) n (paP tc tr tu k c s m v) := if_pos h
theorem paL_no {n tc tr tu k c s m v : Int} (h : paE n tc tr tu k c s m v ≠ 0) : paL n tc tr tu k c s m v = [] := if_neg h
theorem paP_length (tc tr tu k c s m v : Int) : (paP tc tr tu k c s m v).length = 42 := by unfold paP; rw [List.length_append, tokL_length, comL_length]
theorem paP_byte {tc tr tu k c s m v : Int} (h : TokB tc tr tu) : ∀ x ∈ paP tc tr tu k c s m v, 0 ≤ x ∧ x < 256 := by
  intro x hx
  rcases List.mem_append.1 hx with hx | hx
  · exact tokL_byte _ h x hx
  · exact comL_byte _ _ _ _ _ x hx
theorem send_may {c n : Int} {p : List Int} (h0 : 0 ≤ n) (h1 : n < 1073741824) (hp : p.length = 42) : sendE (keyL c) n 0 noB p = 0 := by
  unfold sendE
  rw [if_neg (fun g => g (OkC.new (keyL_length c) n h0 (by omega))), if_neg (by omega), if_neg (by omega)]
theorem graL_bs (tc tr tu : Int) : (graL issL tc tr tu).length ≤ 140737488351232 ∧ ∀ x ∈ graL issL tc tr tu, 0 ≤ x ∧ x < 256 := by
  unfold graL
  split
  · rename_i h9
    rw [graE_tok issL_length] at h9
    refine ⟨by rw [tokL_length]; omega, tokL_byte _ ?_⟩
    unfold tokE at h9
    split at h9
    · assumption
    · cases h9
  · exact ⟨by simp, by simp⟩
theorem encL_bs (k c s m v : Int) : (encL k c s m v).length ≤ 140737488351232 ∧ ∀ x ∈ encL k c s m v, 0 ≤ x ∧ x < 256 := by
  unfold encL
  split
  · exact ⟨by rw [comL_length]; omega, comL_byte _ _ _ _ _⟩
  · exact ⟨by simp, by simp⟩
theorem rec_bs {c n : Int} {tc tr tu k s m v : Int} (h : TokB tc tr tu) (hc : 0 ≤ c ∧ c ≤ 7) : (c :: recL (keyL c) n (paP tc tr tu k c s m v)).length ≤ 140737488351232 ∧ ∀ x ∈ c :: recL (keyL c) n (paP tc tr tu k c s m v), 0 ≤ x ∧ x < 256 := by
  refine ⟨by simp [recL_length, paP_length], fun y hy => ?_⟩
  rcases List.mem_cons.1 hy with rfl | hy
  · omega
  · exact recL_byte _ _ (paP_byte h) y hy
end Go.Proofs.YtakgfdbjgeopdabDoor
/-
  Lists of bytes that are joined. No program is named here.
-/
namespace Go.Proofs.YtakgfdbjgeopdabDoor
open Go.RowKit

theorem flat_snoc (ls : List (List Int)) (j : Nat) (h : j < ls.length) : (ls.take (j + 1)).flatten = (ls.take j).flatten ++ ls.getD j [] := by
  rw [List.take_succ_eq_append_getElem h, List.flatten_append]
  simp [List.getD, List.getElem?_eq_getElem h]

theorem flat_le (ls : List (List Int)) (h : ∀ l ∈ ls, l.length ≤ 1000) : ls.flatten.length ≤ 1000 * ls.length := by
  induction ls with
  | nil => simp
  | cons x r ih =>
    have h1 := h x (by simp)
    have h2 := ih (fun l hl => h l (by simp [hl]))
    simp only [List.flatten_cons, List.length_append, List.length_cons]
    omega

end Go.Proofs.YtakgfdbjgeopdabDoor
