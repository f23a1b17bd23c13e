/-
  The walks of a token's bytes, and of Grant.
-/
import Derived.Lib.AppendZeros
import Derived.Test.YtakgfdbjgeopdaaGreatDoorKo21
import Derived.Test.YtakgfdbjgeopdaaGreatDoorKo15
import Derived.Test.YtakgfdbjgeopdaaGreatDoorKo16
import Derived.Test.YtakgfdbjgeopdaaGreatDoorKo20
import Derived.Test.YtakgfdbjgeopdaaGreatDoorKo1
import Derived.Test.YtakgfdbjgeopdaaGreatDoorKo2
import Derived.Test.YtakgfdbjgeopdaaGreatDoorKo12
import Derived.Test.YtakgfdbjgeopdaaGreatDoorKo6
namespace Go.Proofs.YtakgfdbjgeopdaaGreatDoor
open Go.RowKit
set_option linter.unusedVariables false

/-- a token's bytes -/
def tokL (key : List Int) (c r u : Int) : List Int := tokH c r u ++ (macL key (tokH c r u)).take 16
theorem take16_length (key b : List Int) : ((macL key b).take 16).length = 16 := by rw [List.length_take, macL_length]; rfl
theorem tokL_length (key : List Int) (c r u : Int) : (tokL key c r u).length = 22 := by unfold tokL; rw [List.length_append, take16_length, tokH_length]
theorem take16_byte (key b : List Int) : ∀ x ∈ (macL key b).take 16, 0 ≤ x ∧ x < 256 := fun x hx => macL_byte key b x (List.mem_of_mem_take hx)
theorem tokL_byte (key : List Int) {c r u : Int} (h : TokB c r u) : ∀ x ∈ tokL key c r u, 0 ≤ x ∧ x < 256 := by
  intro x hx
  rcases List.mem_append.1 hx with hx | hx
  · exact tokH_byte h x hx
  · exact take16_byte _ _ x hx
/-- what Grant says, and what it makes -/
def graE (key : List Int) (c r u : Int) : Int := if key.length ≠ 32 then 1 else tokE c r u
def graL (key : List Int) (c r u : Int) : List Int := if graE key c r u = 0 then tokL key c r u else []
theorem graE_size {key : List Int} {c r u : Int} (h : ¬ key.length = 32) : graE key c r u = 1 := if_pos h
theorem graE_tok {key : List Int} {c r u : Int} (h : key.length = 32) : graE key c r u = tokE c r u := if_neg (fun g => g h)
theorem graL_ok {key : List Int} {c r u : Int} (h : graE key c r u = 0) : graL key c r u = tokL key c r u := if_pos h
theorem graL_no {key : List Int} {c r u : Int} (h : ¬ graE key c r u = 0) : graL key c r u = [] := if_neg h

set_option maxHeartbeats 1000000 in
set_option maxRecDepth 100000 in
theorem headOf_tok (c r u : Int) (w : World) (h : TokB c r u) :
    Calls Tryz.prog 41 #[.agg (tkA c r u)] w fun e w' => ∃ v', e = .returned v' ∧ w'.ownsRow w.heap.size 5 1 v' (tokH c r u).length ((tokH c r u).map (Value.int .u8)) ∧ Below w.heap.size w w' := by
  have bb : Below w.heap.size w (w.alloc (.cells (tkA c r u) 23)) := (Below.refl _ _).alloc (Nat.le_refl _) _
  have bt := Bt.made w c r u
  generalize hW : w.alloc (.cells (tkA c r u) 23) = W at bb bt
  obtain ⟨c0, c1, c2⟩ := tkA_cells bt.row
  have lt := bt.lt
  clear bt
  obtain ⟨⟨hc0, hc1⟩, ⟨hr0, hr1⟩, hu0, hu1⟩ := h
  have m1 : c % 256 = c := by omega
  have m2 : r % 256 = r := by omega
  have HT : Hid (tokH c r u = [c, r] ++ headL u) := rfl
  have b1 : Below W.heap.size W (W.alloc (.cells #[.int .u8 c, .int .u8 r] 5)) := (Below.refl _ _).alloc (Nat.le_refl _) _
  have o1 : (W.alloc (.cells #[.int .u8 c, .int .u8 r] 5)).ownsRow W.heap.size 5 1 (.slice (some ⟨W.heap.size, 0, none⟩) 2 2) ([c, r] : List Int).length (([c, r] : List Int).map (Value.int .u8)) :=
    ⟨rfl, .inr ⟨W.heap.size, 2, #[.int .u8 c, .int .u8 r], rfl, Nat.le_refl _, heap_alloc_new _ _, by simp, by simp [maxLen], rfl, rfl⟩⟩
  have O1 : Hid ((W.alloc (.cells #[.int .u8 c, .int .u8 r] 5)).ownsRow W.heap.size 5 1 (.slice (some ⟨W.heap.size, 0, none⟩) 2 2) ([c, r] : List Int).length (([c, r] : List Int).map (Value.int .u8))) := o1
  clear o1
  generalize hW1 : W.alloc (.cells #[.int .u8 c, .int .u8 r] 5) = W1 at b1 O1
  have d2 : W1.cell? ⟨w.heap.size, 2, none⟩ = some (.int .i64 u) := (b1.cell (p := ⟨w.heap.size, 2, none⟩) lt).trans c2
  have d1 := bb.trans (b1.mono bb.size)
  have hz := b1.size
  go_enter Tryz.func41, Tryz.ntmps41
  go_wp2_with fail
  clear hW hW1
  refine (putNumber_any _ [c, r] u W.heap.size W1 O1.out hz (by simp) hu0 (by omega)).mono ?_
  rintro e w2 ⟨v2, rfl, o2, b2⟩
  have hwW := bb.size
  go_wp2
  go_ret
  exact ⟨_, rfl, owns_lower o2 hwW, d1.trans (b2.mono hwW)⟩

set_option maxHeartbeats 1000000 in
set_option maxRecDepth 100000 in
theorem tagOf_ok (vk vb : Value) (key b : List Int) (w : World) (hk : Sl w vk key) (hb : Sl w vb b) (lk : key.length ≤ 256) (lb : b.length ≤ 2000) (ht : TabAt w) :
    Calls Tryz.prog 42 #[vk, vb] w fun e w' => ∃ v', e = .returned (.tuple #[v', .int .i64 0]) ∧ Sl w' v' ((macL key b).take 16) ∧ Below w.heap.size w w' := by
  go_enter Tryz.func42, Tryz.ntmps42
  go_wp2_with fail
  refine (Mac_ok vk vb key b w hk hb lk lb ht).mono ?_
  rintro e w1 ⟨v1, rfl, f1⟩
  obtain ⟨s1, b1, g, cp, rfl, _, _⟩ := f1
  obtain ⟨a2, c2, r2', s2⟩ := s1.upTo 16 (by rw [macL_length]; omega)
  rw [macL_length] at r2' ⊢
  have r2 : ∀ W, (Instr.slice 26 (.slice (some ⟨g, 0, none⟩) 32 cp) none (some (.int .i64 16)) none).run Tryz.prog W = .ok (.slice a2 16 c2) W := r2'
  clear r2' s1
  go_wp2
  go_ret2
  exact ⟨_, rfl, s2, b1⟩

set_option maxHeartbeats 1000000 in
set_option maxRecDepth 100000 in
theorem grant_any (vk : Value) (key : List Int) (c r u : Int) (w : World) (hk : Sl w vk key) (ht : TabAt w) :
    Calls Tryz.prog 16 #[vk, .agg (tkA c r u)] w fun e w' => ∃ v', e = .returned (.tuple #[v', .int .i64 (graE key c r u)]) ∧ w'.ownsRow w.heap.size 5 1 v' (graL key c r u).length ((graL key c r u).map (Value.int .u8)) ∧ Below w.heap.size w w' := by
  have bb : Below w.heap.size w (w.alloc (.cells (tkA c r u) 23)) := (Below.refl _ _).alloc (Nat.le_refl _) _
  have bt := Bt.made w c r u
  have hi := tokInfo c r u
  have hlen := hk.len
  obtain ⟨ak, ck, rfl⟩ := hk.shape
  generalize hW : w.alloc (.cells (tkA c r u) 23) = W at bb bt
  by_cases h1 : key.length = 32
  · have HE := graE_tok (key := key) (c := c) (r := r) (u := u) h1
    have HK : Hid (key.length = 32) := h1
    rw [h1] at hk ⊢
    clear h1 hlen
    go_enter Tryz.func16, Tryz.ntmps16
    go_wp2_with (refine wpList_load_row rfl 23 _ rfl w.heap.size rfl 23 _ (0, 0) _ bt.row Tryz.underlying23 rfl hi ?_)
    clear hW
    refine (mayBe_tok c r u W).mono ?_
    rintro e w1 ⟨rfl, b1⟩
    have d1 := bb.trans (b1.mono bb.size)
    replace bt := bt.below b1
    clear b1 bb
    by_cases h2 : TokB c r u
    · have HZ : Hid (graE key c r u = 0) := HE.trans (tokE_ok h2)
      have HL : Hid (graL key c r u = tokL key c r u) := graL_ok HZ.out
      rw [decide_eq_true h2]
      clear HE
      go_wp2_with (refine wpList_load_row rfl 23 _ rfl w.heap.size rfl 23 _ (0, 0) _ bt.row Tryz.underlying23 rfl hi ?_)
      refine (headOf_tok c r u w1 h2).mono ?_
      rintro e w2 ⟨v2, rfl, o2, b2⟩
      have d2 := d1.trans (b2.mono d1.size)
      have s2 := Sl.ofOwns o2 (by rw [tokH_length]; omega) (tokH_byte h2)
      have z2 := b2.size
      go_wp2_with fail
      refine (tagOf_ok _ v2 key (tokH c r u) w2 (hk.below d2) s2 (by rw [HK.out]; omega) (by rw [tokH_length]; omega) (ht.below d2)).mono ?_
      rintro e w3 ⟨v3, rfl, s3, b3⟩
      have o3 := owns_belowO o2 b3
      have d3' : Below w1.heap.size w1 w3 := b2.trans (b3.mono z2)
      have z3 : w1.heap.size ≤ w3.heap.size := Nat.le_trans z2 b3.size
      have hlt := o3.lt
      have hy := s3.len
      have HT : Hid (tokL key c r u = tokH c r u ++ (macL key (tokH c r u)).take 16) := rfl
      have hx := tokH_length c r u
      clear o2 b3 d2 s2
      generalize (macL key (tokH c r u)).take 16 = Y at s3 HT hy
      generalize tokH c r u = X at o3 HT hx
      go_wp2_with (at_builtin; refine wpList_append_sl _ rfl _ _ 26 rfl w1.heap.size 5 Tryz.underlying26 info5 _ _ rfl rfl X Y o3 s3 (by omega) z3 ?_)
      intro v4 w4 o4 g4
      have d4 : Below w1.heap.size w1 w4 := d3'.grown g4 z3 (fun k hk => (hlt k hk).1)
      have HO : Hid (w4.ownsRow w1.heap.size 5 1 v4 (tokL key c r u).length ((tokL key c r u).map (Value.int .u8))) := by unfold Hid; rw [HT.out]; simpa [hx] using o4
      clear o4 g4
      go_wp2
      go_ret2
      rw [HL.out, HZ.out]
      exact ⟨_, rfl, owns_lower HO.out d1.size, d1.trans (d4.mono d1.size)⟩
    · have HZ : Hid (graE key c r u = 2) := HE.trans (tokE_no h2)
      have HL : Hid (graL key c r u = []) := graL_no (by rw [HZ.out]; omega)
      rw [decide_eq_false h2]
      go_wp2
      go_ret2
      rw [HL.out, HZ.out]
      exact ⟨_, rfl, World.ownsRow_nil _ _ _ _, d1⟩
  · have h1' : ¬ (key.length : Int) = 32 := by omega
    have HZ : Hid (graE key c r u = 1) := graE_size h1
    have HL : Hid (graL key c r u = []) := graL_no (by rw [HZ.out]; omega)
    go_enter Tryz.func16, Tryz.ntmps16
    go_wp2
    go_ret2
    rw [HL.out, HZ.out]
    exact ⟨_, rfl, World.ownsRow_nil _ _ _ _, bb⟩
end Go.Proofs.YtakgfdbjgeopdaaGreatDoor
/-
  What a client packs, in plain lists. No program is named here.
-/
namespace Go.Proofs.YtakgfdbjgeopdaaGreatDoor
set_option linter.unusedVariables false

def paE (n tc tr tu k c s m v : Int) : Int := if ¬ (0 ≤ n ∧ n < 1073741824) then 2 else if tokE tc tr tu ≠ 0 then tokE tc tr tu else comE k c s m v
/-- the token's bytes and the command's -/
def paP (tc tr tu k c s m v : Int) : List Int := tokL issL tc tr tu ++ comL k c s m v
def paL (n tc tr tu k c s m v : Int) : List Int := if paE n tc tr tu k c s m v = 0 then c :: recL (keyL c) n (paP tc tr tu k c s m v) else []
theorem paE_zero {n tc tr tu k c s m v : Int} (h : paE n tc tr tu k c s m v = 0) : (0 ≤ n ∧ n < 1073741824) ∧ TokB tc tr tu ∧ comE k c s m v = 0 := by
  unfold paE at h
  split at h
  · cases h
  · rename_i g1
    split at h
    · rename_i g; exact absurd h g
    · rename_i g2
      refine ⟨Decidable.not_not.1 g1, ?_, h⟩
      have g3 := Decidable.not_not.1 g2
      unfold tokE at g3
      split at g3
      · assumption
      · cases g3
theorem paE_ok {n tc tr tu k c s m v : Int} (h1 : 0 ≤ n ∧ n < 1073741824) (h2 : tokE tc tr tu = 0) : paE n tc tr tu k c s m v = comE k c s m v := by
  unfold paE; rw [if_neg (fun g => g h1), if_neg (fun g => g h2)]
theorem paL_ok {n tc tr tu k c s m v : Int} (h : paE n tc tr tu k c s m v = 0) : paL n tc tr tu k c s m v = c :: recL (keyL c) n (paP tc tr tu k c s m v) := if_pos h
theorem paL_no {n tc tr tu k c s m v : Int} (h : paE n tc tr tu k c s m v ≠ 0) : paL n tc tr tu k c s m v = [] := if_neg h
theorem paP_length (tc tr tu k c s m v : Int) : (paP tc tr tu k c s m v).length = 42 := by unfold paP; rw [List.length_append, tokL_length, comL_length]
theorem paP_byte {tc tr tu k c s m v : Int} (h : TokB tc tr tu) : ∀ x ∈ paP tc tr tu k c s m v, 0 ≤ x ∧ x < 256 := by
  intro x hx
  rcases List.mem_append.1 hx with hx | hx
  · exact tokL_byte _ h x hx
  · exact comL_byte _ _ _ _ _ x hx
theorem send_may {c n : Int} {p : List Int} (h0 : 0 ≤ n) (h1 : n < 1073741824) (hp : p.length = 42) : sendE (keyL c) n 0 noB p = 0 := by
  unfold sendE
  rw [if_neg (fun g => g (OkC.new (keyL_length c) n h0 (by omega))), if_neg (by omega), if_neg (by omega)]
theorem graL_bs (tc tr tu : Int) : (graL issL tc tr tu).length ≤ 140737488351232 ∧ ∀ x ∈ graL issL tc tr tu, 0 ≤ x ∧ x < 256 := by
  unfold graL
  split
  · rename_i h9
    rw [graE_tok issL_length] at h9
    refine ⟨by rw [tokL_length]; omega, tokL_byte _ ?_⟩
    unfold tokE at h9
    split at h9
    · assumption
    · cases h9
  · exact ⟨by simp, by simp⟩
theorem encL_bs (k c s m v : Int) : (encL k c s m v).length ≤ 140737488351232 ∧ ∀ x ∈ encL k c s m v, 0 ≤ x ∧ x < 256 := by
  unfold encL
  split
  · exact ⟨by rw [comL_length]; omega, comL_byte _ _ _ _ _⟩
  · exact ⟨by simp, by simp⟩
theorem rec_bs {c n : Int} {tc tr tu k s m v : Int} (h : TokB tc tr tu) (hc : 0 ≤ c ∧ c ≤ 7) : (c :: recL (keyL c) n (paP tc tr tu k c s m v)).length ≤ 140737488351232 ∧ ∀ x ∈ c :: recL (keyL c) n (paP tc tr tu k c s m v), 0 ≤ x ∧ x < 256 := by
  refine ⟨by simp [recL_length, paP_length], fun y hy => ?_⟩
  rcases List.mem_cons.1 hy with rfl | hy
  · omega
  · exact recL_byte _ _ (paP_byte h) y hy
end Go.Proofs.YtakgfdbjgeopdaaGreatDoor
/-
  Lists of bytes that are joined. No program is named here.
-/
namespace Go.Proofs.YtakgfdbjgeopdaaGreatDoor
open Go.RowKit

theorem flat_snoc (ls : List (List Int)) (j : Nat) (h : j < ls.length) : (ls.take (j + 1)).flatten = (ls.take j).flatten ++ ls.getD j [] := by
  rw [List.take_succ_eq_append_getElem h, List.flatten_append]
  simp [List.getD, List.getElem?_eq_getElem h]

theorem flat_le (ls : List (List Int)) (h : ∀ l ∈ ls, l.length ≤ 1000) : ls.flatten.length ≤ 1000 * ls.length := by
  induction ls with
  | nil => simp
  | cons x r ih =>
    have h1 := h x (by simp)
    have h2 := ih (fun l hl => h l (by simp [hl]))
    simp only [List.flatten_cons, List.length_append, List.length_cons]
    omega

end Go.Proofs.YtakgfdbjgeopdaaGreatDoor
/-
  The walks of slices.Grow of nothing, and of slices.Concat.
-/
namespace Go.Proofs.YtakgfdbjgeopdaaGreatDoor
open Go.RowKit
set_option linter.unusedVariables false

theorem zeroC_size (n : Nat) : (Builtin.zeroCells (Value.int .u8 0).cells n).size = n := by
  simp [Builtin.zeroCells, Value.cells]
set_option maxHeartbeats 1000000 in
set_option maxRecDepth 100000 in
theorem grow_nil (n : Nat) (w : World) (h0 : 0 < n) (h1 : n ≤ 20000) :
    Calls Tryz.prog 49 #[.slice none 0 0, .int .i64 (n : Int)] w fun e w' => ∃ v', e = .returned v' ∧ w'.ownsRow w.heap.size 5 1 v' 0 [] ∧ Below w.heap.size w w' := by
  obtain ⟨i0, hi, hz0, hz1, hz2⟩ := info_parts info5
  have hr := fun ty => Lib.run_append_nil_zeros (P := Tryz.prog) w 26 3 ty 5 i0 (.int .u8 0) .i64 .i64 Tryz.underlying26 Tryz.underlying3 hi hz0 n h0 (by rw [hz1]; decide) (by omega) (by rw [hz2]; omega)
  have hge := grownCap_ge w n 0 5
  have hcm := grownCap_le_maxLen w n 0 5 (by unfold maxLen; omega)
  have hcs : (Builtin.zeroCells (Value.int .u8 0).cells n ++ Builtin.zeroCells (Value.int .u8 0).cells (grownCap w n 0 5 - n)).size = grownCap w n 0 5 * 1 := by rw [Array.size_append, zeroC_size, zeroC_size]; omega
  generalize Builtin.zeroCells (Value.int .u8 0).cells n ++ Builtin.zeroCells (Value.int .u8 0).cells (grownCap w n 0 5 - n) = Z at hr hcs
  generalize grownCap w n 0 5 = cap at hr hcs hge hcm
  have bb : Below w.heap.size w (w.drew.alloc (.cells Z 5)) := ((Below.refl w.heap.size w).drew).alloc (by exact Nat.le_refl _) _
  have rr : (w.drew.alloc (.cells Z 5)).heap[w.heap.size]? = some (.cells Z 5) := heap_alloc_new _ _
  generalize w.drew.alloc (.cells Z 5) = W at hr bb rr
  have ho : W.ownsRow w.heap.size 5 1 (.slice (some ⟨w.heap.size, 0, none⟩) 0 cap) 0 [] := ⟨by simp, .inr ⟨w.heap.size, cap, Z, rfl, Nat.le_refl _, rr, by omega, hcm, hcs, by simp⟩⟩
  have hsl : ∀ W', (Instr.slice 26 (.slice (some ⟨w.heap.size, 0, none⟩) n cap) none (some (.int .i64 0)) none).run Tryz.prog W' = .ok (.slice (some ⟨w.heap.size, 0, none⟩) 0 cap) W' := fun W' => by
    rw [run_slice_h (P := Tryz.prog) W' 26 (some ⟨w.heap.size, 0, none⟩) n cap Tryz.underlying26 .i64 0 (by omega) (by omega)]
    have e : Tryz.prog.elem 26 = 5 := by kernel_rfl
    rw [e, size5w]
    simp [Result.andThen, sliced, Addr.add_mid]
  have hpos : (0 : Int) < (n : Int) := by omega
  clear rr hcs hcm hge hi hz0 hz1 hz2
  go_enter Tryz.func49, Tryz.ntmps49
  go_wp2_with (at_builtin; refine Lib.wpList_append_run _ rfl _ _ _ _ rfl _ _ rfl rfl _ _ (hr _) ?_)
  go_ret
  exact ⟨_, rfl, ho, bb⟩
set_option maxHeartbeats 1000000 in
theorem concat_any (g n cap : Nat) (vs : List Value) (ls : List (List Int)) (w : World) (hg : g < w.heap.size) (hn : n ≤ 10) (hls : ls.length = n)
    (hc : ∀ i, i < n → w.cell? ⟨g, i, none⟩ = some (vs.getD i undef)) (hs : ∀ i, i < n → Sl w (vs.getD i undef) (ls.getD i [])) (hl : ∀ l ∈ ls, l.length ≤ 1000) (hp : 0 < ls.flatten.length) :
    Calls Tryz.prog 21 #[.slice (some ⟨g, 0, none⟩) n cap] w fun e w' => ∃ v', e = .returned v' ∧ w'.ownsRow w.heap.size 5 1 v' ls.flatten.length (ls.flatten.map (Value.int .u8)) ∧ Below w.heap.size w w' := by
  have HLS : Hid (ls.length = n) := hls
  have HC : Hid _ := hc
  have HS : Hid _ := hs
  have HL : Hid _ := hl
  have HP : Hid _ := hp
  clear hls hc hs hl hp
  go_enter Tryz.func21, Tryz.ntmps21
  go_wp2_with fail
  go_loopw [3, 11] (fun sv i wr => ∃ j : Nat, j ≤ n ∧ i = .int .i64 j ∧ sv = .int .i64 ((ls.take j).flatten.length : Int) ∧ w = wr) (fun _ i _ => n - (intOf i).toNat)
  case atStart => exact ⟨0, by omega, rfl, by simp, rfl⟩
  case round =>
    obtain ⟨j, hj, rfl, rfl, rfl⟩ := hrel
    have hfl := flat_le (ls.take j) (fun l hl => HL.out l (List.mem_of_mem_take hl))
    by_cases hjn : j < n
    · have hf2 : (ls.take j).flatten.length ≤ 10000 := by rw [List.length_take] at hfl; omega
      have HF : Hid ((ls.take (j + 1)).flatten.length = (ls.take j).flatten.length + (ls.getD j []).length) := by unfold Hid; rw [flat_snoc ls j (by rw [HLS.out]; exact hjn), List.length_append]
      have sj := HS.out j hjn
      have cj := HC.out j hjn
      have hlj : (ls.getD j []).length ≤ 1000 := by
        have hj2 : j < ls.length := by rw [HLS.out]; exact hjn
        have : ls.getD j [] = ls[j] := by simp [List.getD, List.getElem?_eq_getElem hj2]
        rw [this]; exact HL.out _ (List.getElem_mem hj2)
      generalize vs.getD j undef = vj at sj cj
      generalize ls.getD j [] = lj at sj HF hlj
      generalize (ls.take j).flatten.length = pre at HF hf2
      clear hfl
      obtain ⟨⟨aj, kj, rfl, _, _, _⟩, _, _⟩ := sj
      generalize lj.length = nj at *
      go_wp2
      go_roundw
      case rel => exact ⟨j + 1, by omega, by go_num, by rw [HF.out]; go_num, by simp⟩
      case measure => simp [intOf]; omega
    · obtain rfl : j = n := by omega
      have HT : Hid (ls.take j = ls) := List.take_of_length_le (by rw [HLS.out]; exact Nat.le_refl _)
      have hz : ls.flatten.length ≤ 10000 := by rw [HT.out, HLS.out] at hfl; omega
      rw [HT.out]
      clear hfl
      have HZ := HP.out
      generalize hz2 : ls.flatten.length = Z at hz HZ
      have HZZ : Hid (ls.flatten.length = Z) := hz2
      clear hz2
      go_wp2_with fail
      refine (grow_nil Z w HZ (by omega)).mono ?_
      rintro e w1 ⟨v1, rfl, ho1, hb1⟩
      clear HZ hz
      obtain ⟨g1, c1, rfl⟩ := tOwns_shape ho1
      have HO1 : Hid (w1.ownsRow w.heap.size 5 1 (.slice g1 0 c1) (ls.take 0).flatten.length ((ls.take 0).flatten.map (Value.int .u8))) := by unfold Hid; simpa using ho1
      clear ho1
      go_wp2_with fail
      go_loopw [6, 27] (fun v i wr => ∃ k : Nat, k ≤ j ∧ i = .int .i64 k ∧ Hid (wr.ownsRow w.heap.size 5 1 v (ls.take k).flatten.length ((ls.take k).flatten.map (Value.int .u8))) ∧ Below w.heap.size w wr) (fun _ i _ => j - (intOf i).toNat)
      case atStart => exact ⟨0, by omega, rfl, HO1, hb1⟩
      case round =>
        obtain ⟨k, hk, rfl, hown0, hb⟩ := hrel
        have hown := hown0.out
        clear hown0 HO1 hb1
        have hlt := hown.lt
        by_cases hkn : k < j
        · have hfl := flat_le (ls.take k) (fun l hl => HL.out l (List.mem_of_mem_take hl))
          have hf2 : (ls.take k).flatten.length ≤ 10000 := by rw [List.length_take] at hfl; omega
          have HF : Hid ((ls.take (k + 1)).flatten = (ls.take k).flatten ++ ls.getD k []) := flat_snoc ls k (by rw [HLS.out]; exact hkn)
          have sj := (HS.out k hkn).below hb
          have cj := (hb.cell (p := ⟨g, k, none⟩) hg).trans (HC.out k hkn)
          have hlj : (ls.getD k []).length ≤ 1000 := by
            have hj2 : k < ls.length := by rw [HLS.out]; exact hkn
            have : ls.getD k [] = ls[k] := by simp [List.getD, List.getElem?_eq_getElem hj2]
            rw [this]; exact HL.out _ (List.getElem_mem hj2)
          generalize vs.getD k undef = vj at sj cj
          generalize ls.getD k [] = lj at sj HF hlj
          generalize (ls.take k).flatten = pre at hown HF hf2
          clear hfl
          have sj2 := sj
          obtain ⟨⟨aj, kj, rfl, _, _, _⟩, _, _⟩ := sj
          go_wp2_with (at_builtin; refine wpList_append_sl _ rfl _ _ 26 rfl w.heap.size 5 Tryz.underlying26 info5 _ _ rfl rfl pre lj hown sj2 (by omega) hb.size ?_)
          intro v2 w2 ho2 hg2
          have ho2' : w2.ownsRow w.heap.size 5 1 v2 (pre ++ lj).length ((pre ++ lj).map (Value.int .u8)) := by simpa using ho2
          have hb2 : Below w.heap.size w w2 := hb.grown hg2 hb.size (fun k hk => (hlt k hk).1)
          clear ho2 hg2 hown hlt hb sj2 cj
          go_wp2
          go_roundw
          case rel => exact ⟨k + 1, by omega, by go_num, by rw [HF.out]; exact ho2', hb2⟩
          case measure => simp [intOf]; omega
        · have HJ : Hid (ls.take k = ls) := by unfold Hid; exact List.take_of_length_le (by rw [HLS.out]; omega)
          go_wp2
          go_ret
          refine ⟨u6, rfl, ?_, hb⟩
          rw [HJ.out] at hown
          exact hown
theorem concat3 (v0 v1 v2 : Value) (l0 l1 l2 : List Int) (w : World) (e : TypeId) (g : Nat) (hg : g = w.heap.size) (h0 : Sl w v0 l0) (h1 : Sl w v1 l1) (h2 : Sl w v2 l2) (q0 : l0.length ≤ 1000) (q1 : l1.length ≤ 1000) (q2 : l2.length ≤ 1000) (q3 : 0 < l0.length) :
    Calls Tryz.prog 21 #[.slice (some ⟨g, 0, none⟩) 3 3] (w.alloc (.cells #[v0, v1, v2] e)) fun e w' => ∃ v', e = .returned v' ∧ w'.ownsRow w.heap.size 5 1 v' (l0 ++ (l1 ++ l2)).length ((l0 ++ (l1 ++ l2)).map (Value.int .u8)) ∧ Below w.heap.size w w' := by
  subst hg
  have ba : Below w.heap.size w (w.alloc (.cells #[v0, v1, v2] e)) := (Below.refl _ _).alloc (Nat.le_refl _) _
  refine (concat_any w.heap.size 3 3 [v0, v1, v2] [l0, l1, l2] (w.alloc (.cells #[v0, v1, v2] e)) (by simp) (by omega) rfl ?_ ?_ ?_ ?_).mono ?_
  · intro i hi
    rw [cell_of_row _ _ i _ _ _ (heap_alloc_new w _)]
    obtain rfl | rfl | rfl : i = 0 ∨ i = 1 ∨ i = 2 := by omega
    all_goals rfl
  · intro i hi
    obtain rfl | rfl | rfl : i = 0 ∨ i = 1 ∨ i = 2 := by omega
    · exact h0.below ba
    · exact h1.below ba
    · exact h2.below ba
  · intro l hl
    simp only [List.mem_cons, List.not_mem_nil, or_false] at hl
    rcases hl with rfl | rfl | rfl
    · exact q0
    · exact q1
    · exact q2
  · simp; omega
  · rintro e w2 ⟨v2, rfl, ho, hb⟩
    exact ⟨v2, rfl, owns_lower (by simpa using ho) (by simp), ba.trans (hb.mono (by simp))⟩
end Go.Proofs.YtakgfdbjgeopdaaGreatDoor
/-
  Two lists put together, by slices.Concat; and what a client packs, in plain lists.
-/
namespace Go.Proofs.YtakgfdbjgeopdaaGreatDoor
open Go.RowKit
set_option linter.unusedVariables false

theorem concat2 {v0 v1 : Value} {l0 l1 : List Int} {w : World} {e : TypeId} {g : Nat} (hr : w.heap[g]? = some (.cells #[v0, v1] e)) (h0 : Sl w v0 l0) (h1 : Sl w v1 l1) (q0 : l0.length ≤ 1000) (q1 : l1.length ≤ 1000) (q3 : 0 < l0.length) :
    Calls Tryz.prog 21 #[.slice (some ⟨g, 0, none⟩) 2 2] w fun e w' => ∃ v', e = .returned v' ∧ w'.ownsRow w.heap.size 5 1 v' (l0 ++ l1).length ((l0 ++ l1).map (Value.int .u8)) ∧ Below w.heap.size w w' := by
  refine (concat_any g 2 2 [v0, v1] [l0, l1] w (Array.getElem?_eq_some_iff.1 hr).1 (by omega) rfl ?_ ?_ ?_ ?_).mono ?_
  · intro i hi
    rw [cell_of_row _ _ i _ _ _ hr]
    obtain rfl | rfl : i = 0 ∨ i = 1 := by omega
    all_goals rfl
  · intro i hi
    obtain rfl | rfl : i = 0 ∨ i = 1 := by omega
    · exact h0
    · exact h1
  · intro l hl
    simp only [List.mem_cons, List.not_mem_nil, or_false] at hl
    rcases hl with rfl | rfl
    · exact q0
    · exact q1
  · simp; omega
  · rintro e w2 ⟨v2, rfl, ho, hb⟩
    exact ⟨v2, rfl, by simpa using ho, hb⟩
end Go.Proofs.YtakgfdbjgeopdaaGreatDoor
