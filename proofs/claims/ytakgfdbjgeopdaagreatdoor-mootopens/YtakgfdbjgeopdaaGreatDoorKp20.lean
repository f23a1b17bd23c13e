/-
  The walks of a token's bytes, and of Grant.
-/
import Derived.Test.YtakgfdbjgeopdaaGreatDoorKp19
import Derived.Test.YtakgfdbjgeopdaaGreatDoorKp14
namespace Go.Proofs.YtakgfdbjgeopdaaGreatDoor
open Go.RowKit
set_option linter.unusedVariables false

/-- a token's bytes -/
def tokL (key : List Int) (c r u : Int) : List Int := tokH c r u ++ (macL key (tokH c r u)).take 16
theorem take16_length (key b : List Int) : ((macL key b).take 16).length = 16 := by rw [List.length_take, macL_length]; rfl
theorem tokL_length (key : List Int) (c r u : Int) : (tokL key c r u).length = 22 := by unfold tokL; rw [List.length_append, take16_length, tokH_length]
theorem take16_byte (key b : List Int) : ∀ x ∈ (macL key b).take 16, 0 ≤ x ∧ x < 256 := fun x hx => macL_byte key b x (List.mem_of_mem_take hx)
theorem tokL_byte (key : List Int) {c r u : Int} (h : TokB c r u) : ∀ x ∈ tokL key c r u, 0 ≤ x ∧ x < 256 := by
  intro x hx
  rcases List.mem_append.1 hx with hx | hx
  · exact tokH_byte h x hx
  · exact take16_byte _ _ x hx
/-- what Grant says, and what it makes -/
def graE (key : List Int) (c r u : Int) : Int := if key.length ≠ 32 then 1 else tokE c r u
def graL (key : List Int) (c r u : Int) : List Int := if graE key c r u = 0 then tokL key c r u else []
theorem graE_size {key : List Int} {c r u : Int} (h : ¬ key.length = 32) : graE key c r u = 1 := if_pos h
theorem graE_tok {key : List Int} {c r u : Int} (h : key.length = 32) : graE key c r u = tokE c r u := if_neg (fun g => g h)
theorem graL_ok {key : List Int} {c r u : Int} (h : graE key c r u = 0) : graL key c r u = tokL key c r u := if_pos h
theorem graL_no {key : List Int} {c r u : Int} (h : ¬ graE key c r u = 0) : graL key c r u = [] := if_neg h

set_option maxHeartbeats 1000000 in
set_option maxRecDepth 100000 in
theorem headOf_tok (c r u : Int) (w : World) (h : TokB c r u) :
    Calls Tryz.prog 41 #[.agg (tkA c r u)] w fun e w' => ∃ v', e = .returned v' ∧ w'.ownsRow w.heap.size 5 1 v' (tokH c r u).length ((tokH c r u).map (Value.int .u8)) ∧ Below w.heap.size w w' := by
  have bb : Below w.heap.size w (w.alloc (.cells (tkA c r u) 23)) := (Below.refl _ _).alloc (Nat.le_refl _) _
  have bt := Bt.made w c r u
  generalize hW : w.alloc (.cells (tkA c r u) 23) = W at bb bt
  obtain ⟨c0, c1, c2⟩ := tkA_cells bt.row
  have lt := bt.lt
  clear bt
  obtain ⟨⟨hc0, hc1⟩, ⟨hr0, hr1⟩, hu0, hu1⟩ := h
  have m1 : c % 256 = c := by omega
  have m2 : r % 256 = r := by omega
  have HT : Hid (tokH c r u = [c, r] ++ headL u) := rfl
  have b1 : Below W.heap.size W (W.alloc (.cells #[.int .u8 c, .int .u8 r] 5)) := (Below.refl _ _).alloc (Nat.le_refl _) _
  have o1 : (W.alloc (.cells #[.int .u8 c, .int .u8 r] 5)).ownsRow W.heap.size 5 1 (.slice (some ⟨W.heap.size, 0, none⟩) 2 2) ([c, r] : List Int).length (([c, r] : List Int).map (Value.int .u8)) :=
    ⟨rfl, .inr ⟨W.heap.size, 2, #[.int .u8 c, .int .u8 r], rfl, Nat.le_refl _, heap_alloc_new _ _, by simp, by simp [maxLen], rfl, rfl⟩⟩
  have O1 : Hid ((W.alloc (.cells #[.int .u8 c, .int .u8 r] 5)).ownsRow W.heap.size 5 1 (.slice (some ⟨W.heap.size, 0, none⟩) 2 2) ([c, r] : List Int).length (([c, r] : List Int).map (Value.int .u8))) := o1
  clear o1
  generalize hW1 : W.alloc (.cells #[.int .u8 c, .int .u8 r] 5) = W1 at b1 O1
  have d2 : W1.cell? ⟨w.heap.size, 2, none⟩ = some (.int .i64 u) := (b1.cell (p := ⟨w.heap.size, 2, none⟩) lt).trans c2
  have d1 := bb.trans (b1.mono bb.size)
  have hz := b1.size
  go_enter Tryz.func41, Tryz.ntmps41
  go_wp2_with fail
  clear hW hW1
  refine (putNumber_any _ [c, r] u W.heap.size W1 O1.out hz (by simp) hu0 (by omega)).mono ?_
  rintro e w2 ⟨v2, rfl, o2, b2⟩
  have hwW := bb.size
  go_wp2
  go_ret
  exact ⟨_, rfl, owns_lower o2 hwW, d1.trans (b2.mono hwW)⟩

set_option maxHeartbeats 1000000 in
set_option maxRecDepth 100000 in
theorem tagOf_ok (vk vb : Value) (key b : List Int) (w : World) (hk : Sl w vk key) (hb : Sl w vb b) (lk : key.length ≤ 256) (lb : b.length ≤ 2000) (ht : TabAt w) :
    Calls Tryz.prog 42 #[vk, vb] w fun e w' => ∃ v', e = .returned (.tuple #[v', .int .i64 0]) ∧ Sl w' v' ((macL key b).take 16) ∧ Below w.heap.size w w' := by
  go_enter Tryz.func42, Tryz.ntmps42
  go_wp2_with fail
  refine (Mac_ok vk vb key b w hk hb lk lb ht).mono ?_
  rintro e w1 ⟨v1, rfl, f1⟩
  obtain ⟨s1, b1, g, cp, rfl, _, _⟩ := f1
  obtain ⟨a2, c2, r2', s2⟩ := s1.upTo 16 (by rw [macL_length]; omega)
  rw [macL_length] at r2' ⊢
  have r2 : ∀ W, (Instr.slice 26 (.slice (some ⟨g, 0, none⟩) 32 cp) none (some (.int .i64 16)) none).run Tryz.prog W = .ok (.slice a2 16 c2) W := r2'
  clear r2' s1
  go_wp2
  go_ret2
  exact ⟨_, rfl, s2, b1⟩

set_option maxHeartbeats 1000000 in
set_option maxRecDepth 100000 in
theorem grant_any (vk : Value) (key : List Int) (c r u : Int) (w : World) (hk : Sl w vk key) (ht : TabAt w) :
    Calls Tryz.prog 16 #[vk, .agg (tkA c r u)] w fun e w' => ∃ v', e = .returned (.tuple #[v', .int .i64 (graE key c r u)]) ∧ w'.ownsRow w.heap.size 5 1 v' (graL key c r u).length ((graL key c r u).map (Value.int .u8)) ∧ Below w.heap.size w w' := by
  have bb : Below w.heap.size w (w.alloc (.cells (tkA c r u) 23)) := (Below.refl _ _).alloc (Nat.le_refl _) _
  have bt := Bt.made w c r u
  have hi := tokInfo c r u
  have hlen := hk.len
  obtain ⟨ak, ck, rfl⟩ := hk.shape
  generalize hW : w.alloc (.cells (tkA c r u) 23) = W at bb bt
  by_cases h1 : key.length = 32
  · have HE := graE_tok (key := key) (c := c) (r := r) (u := u) h1
    have HK : Hid (key.length = 32) := h1
    rw [h1] at hk ⊢
    clear h1 hlen
    go_enter Tryz.func16, Tryz.ntmps16
    go_wp2_with (refine wpList_load_row rfl 23 _ rfl w.heap.size rfl 23 _ (0, 0) _ bt.row Tryz.underlying23 rfl hi ?_)
    clear hW
    refine (mayBe_tok c r u W).mono ?_
    rintro e w1 ⟨rfl, b1⟩
    have d1 := bb.trans (b1.mono bb.size)
    replace bt := bt.below b1
    clear b1 bb
    by_cases h2 : TokB c r u
    · have HZ : Hid (graE key c r u = 0) := HE.trans (tokE_ok h2)
      have HL : Hid (graL key c r u = tokL key c r u) := graL_ok HZ.out
      rw [decide_eq_true h2]
      clear HE
      go_wp2_with (refine wpList_load_row rfl 23 _ rfl w.heap.size rfl 23 _ (0, 0) _ bt.row Tryz.underlying23 rfl hi ?_)
      refine (headOf_tok c r u w1 h2).mono ?_
      rintro e w2 ⟨v2, rfl, o2, b2⟩
      have d2 := d1.trans (b2.mono d1.size)
      have s2 := Sl.ofOwns o2 (by rw [tokH_length]; omega) (tokH_byte h2)
      have z2 := b2.size
      go_wp2_with fail
      refine (tagOf_ok _ v2 key (tokH c r u) w2 (hk.below d2) s2 (by rw [HK.out]; omega) (by rw [tokH_length]; omega) (ht.below d2)).mono ?_
      rintro e w3 ⟨v3, rfl, s3, b3⟩
      have o3 := owns_belowO o2 b3
      have d3' : Below w1.heap.size w1 w3 := b2.trans (b3.mono z2)
      have z3 : w1.heap.size ≤ w3.heap.size := Nat.le_trans z2 b3.size
      have hlt := o3.lt
      have hy := s3.len
      have HT : Hid (tokL key c r u = tokH c r u ++ (macL key (tokH c r u)).take 16) := rfl
      have hx := tokH_length c r u
      clear o2 b3 d2 s2
      generalize (macL key (tokH c r u)).take 16 = Y at s3 HT hy
      generalize tokH c r u = X at o3 HT hx
      go_wp2_with (at_builtin; refine wpList_append_sl _ rfl _ _ 26 rfl w1.heap.size 5 Tryz.underlying26 info5 _ _ rfl rfl X Y o3 s3 (by omega) z3 ?_)
      intro v4 w4 o4 g4
      have d4 : Below w1.heap.size w1 w4 := d3'.grown g4 z3 (fun k hk => (hlt k hk).1)
      have HO : Hid (w4.ownsRow w1.heap.size 5 1 v4 (tokL key c r u).length ((tokL key c r u).map (Value.int .u8))) := by unfold Hid; rw [HT.out]; simpa [hx] using o4
      clear o4 g4
      go_wp2
      go_ret2
      rw [HL.out, HZ.out]
      exact ⟨_, rfl, owns_lower HO.out d1.size, d1.trans (d4.mono d1.size)⟩
    · have HZ : Hid (graE key c r u = 2) := HE.trans (tokE_no h2)
      have HL : Hid (graL key c r u = []) := graL_no (by rw [HZ.out]; omega)
      rw [decide_eq_false h2]
      go_wp2
      go_ret2
      rw [HL.out, HZ.out]
      exact ⟨_, rfl, World.ownsRow_nil _ _ _ _, d1⟩
  · have h1' : ¬ (key.length : Int) = 32 := by omega
    have HZ : Hid (graE key c r u = 1) := graE_size h1
    have HL : Hid (graL key c r u = []) := graL_no (by rw [HZ.out]; omega)
    go_enter Tryz.func16, Tryz.ntmps16
    go_wp2
    go_ret2
    rw [HL.out, HZ.out]
    exact ⟨_, rfl, World.ownsRow_nil _ _ _ _, bb⟩
end Go.Proofs.YtakgfdbjgeopdaaGreatDoor
/-
  The walk of the number at a place of bytes.
-/
namespace Go.Proofs.YtakgfdbjgeopdaaGreatDoor
open Go.RowKit
set_option linter.unusedVariables false

set_option maxRecDepth 100000 in
theorem Sl.fourAt {w : World} {a : Option Addr} {n cap : Nat} {l : List Int} (h : Sl w (.slice a n cap) l) (lo : Nat) (hhi : lo + 4 ≤ l.length) (li hj : Int) (hli : li = (lo : Int)) (hhj : hj = (lo : Int) + 4) :
    ∃ a' c', (∀ W, (Instr.slice 26 (.slice a n cap) (some (.int .i64 li)) (some (.int .i64 hj)) none).run Tryz.prog W = .ok (.slice a' 4 c') W) ∧ Sl w (.slice a' 4 c') ((l.take (lo + 4)).drop lo) := by
  subst hli
  subst hhj
  have hw := h.window lo (lo + 4) (by omega) hhi
  obtain ⟨⟨a', cap', e, hc, hn, h1⟩, hla, hba⟩ := h
  simp only [Value.slice.injEq] at e
  obtain ⟨rfl, rfl, rfl⟩ := e
  have e4 : lo + 4 - lo = 4 := by omega
  unfold sliced at hw
  rw [e4] at hw
  refine ⟨_, _, fun W => ?_, hw⟩
  rw [run_slice_lh (P := Tryz.prog) W 26 a _ cap Tryz.underlying26 .i64 .i64 _ _ (by omega) (by omega) (by omega)]
  have e : Tryz.prog.elem 26 = 5 := by kernel_rfl
  rw [e, size5w, show ((lo : Int) + 4).toNat = lo + 4 by omega, Int.toNat_natCast]
  simp [Result.andThen, sliced]

theorem or_byteO (x b : Int) (hx : 0 ≤ x ∧ x < 36028797018963968) (hb : 0 ≤ b ∧ b < 256) : bits .or .i64 (x * 256) b = x * 256 + b := by
  obtain ⟨x, rfl⟩ := Int.eq_ofNat_of_zero_le hx.1
  obtain ⟨y, rfl⟩ := Int.eq_ofNat_of_zero_le hb.1
  have e : (x : Int) * 256 = ((x * 256 : Nat) : Int) := by omega
  have key : (BitVec.ofInt 64 ((x * 256 : Nat) : Int) ||| BitVec.ofInt 64 (y : Int)).toNat = x * 256 + y := by
    rw [BitVec.toNat_or, BitVec.toNat_ofInt, BitVec.toNat_ofInt]
    have h1 : ((y : Int) % ((2 ^ 64 : Nat) : Int)).toNat = y := by omega
    have h2 : (((x * 256 : Nat) : Int) % ((2 ^ 64 : Nat) : Int)).toNat = 2 ^ 8 * x := by omega
    rw [h1, h2, ← Nat.two_pow_add_eq_or_of_lt (by omega : y < 2 ^ 8)]
    omega
  rw [e]
  show IntKind.i64.wrap ((BitVec.ofInt 64 ((x * 256 : Nat) : Int) ||| BitVec.ofInt 64 (y : Int)).toNat : Nat) = _
  rw [key, IntKind.wrap_i64]
  omega
/-- the number of the first k bytes -/
def numKO (h : List Int) : Nat → Int
  | 0 => 0
  | k + 1 => numKO h k * 256 + h.getD k 0
theorem numKO_range {h : List Int} (hb : ∀ x ∈ h, 0 ≤ x ∧ x < 256) (k : Nat) : 0 ≤ numKO h k ∧ numKO h k < 256 ^ k := by
  induction k with
  | zero => simp [numKO]
  | succ k ih =>
    have := getD_byte hb k
    rw [numKO, Int.pow_succ]
    omega
theorem numKO_four (l : List Int) (lo : Nat) (h : lo + 4 ≤ l.length) : numKO ((l.take (lo + 4)).drop lo) 4 = numA l lo := by
  show (((0 * 256 + ((l.take (lo + 4)).drop lo).getD 0 0) * 256 + ((l.take (lo + 4)).drop lo).getD 1 0) * 256 + ((l.take (lo + 4)).drop lo).getD 2 0) * 256 + ((l.take (lo + 4)).drop lo).getD 3 0 = _
  rw [getD_dropped, getD_dropped, getD_dropped, getD_dropped, getD_taken _ _ _ (by omega), getD_taken _ _ _ (by omega), getD_taken _ _ _ (by omega), getD_taken _ _ _ (by omega)]
  unfold numA
  rw [Nat.add_zero]
  omega
set_option maxHeartbeats 1000000 in
set_option maxRecDepth 100000 in
theorem numberAt_any (v : Value) (l : List Int) (lo : Nat) (w : World) (h : Sl w v l) (hl : lo + 4 ≤ l.length) (li : Int) (hli : li = (lo : Int)) :
    Calls Tryz.prog 99 #[v, .int .i64 li] w fun e w' => e = .returned (.int .i64 (numA l lo)) ∧ w' = w := by
  have HN : Hid (numKO ((l.take (lo + 4)).drop lo) 4 = numA l lo) := numKO_four l lo hl
  have hlen := h.len
  have i0 : 0 ≤ li := by omega
  have i1 : li ≤ 140737488351232 := by omega
  obtain ⟨a, c, rfl⟩ := h.shape
  obtain ⟨a2, c2, hr, hs⟩ := h.fourAt lo hl li (li + 4) hli (by omega)
  have HB : Hid (∀ x ∈ (l.take (lo + 4)).drop lo, 0 ≤ x ∧ x < 256) := hs.byte
  have HS : Hid (((l.take (lo + 4)).drop lo).length = 4) := by unfold Hid; rw [List.length_drop, List.length_take]; omega
  generalize (l.take (lo + 4)).drop lo = L at HN hs HB HS
  generalize l.length = N at hr hlen ⊢
  clear h hl hli hlen
  go_enter Tryz.func99, Tryz.ntmps99
  go_wp2_with fail
  go_loopw [5, 14] (fun v iv wr => ∃ j : Nat, j ≤ 4 ∧ iv = .int .i64 (j : Int) ∧ v = .int .i64 (numKO L j) ∧ wr = w) (fun _ iv _ => (4 - intOf iv).toNat)
  case atStart => exact ⟨0, by omega, rfl, rfl, rfl⟩
  case round =>
    obtain ⟨j, hj, rfl, rfl, rfl⟩ := hrel
    by_cases hj4 : j < 4
    · have hii : (j : Int) < 4 := by omega
      have hx := numKO_range HB.out j
      have hx2 : numKO L j < 16777216 := by
        have : (256 : Int) ^ j ≤ 256 ^ 3 := by
          rcases (by omega : j = 0 ∨ j = 1 ∨ j = 2 ∨ j = 3) with rfl | rfl | rfl | rfl <;> decide
        omega
      have hb := getD_byte HB.out j
      obtain ⟨bd, od, rfl, hbd, hc⟩ := hs.spotO j (by have := HS.out; omega)
      have hor := or_byteO (numKO L j) (L.getD j 0) ⟨hx.1, by omega⟩ hb
      have HK : Hid (numKO L j * 256 + L.getD j 0 = numKO L (j + 1)) := rfl
      have hx1 := hx.1
      clear hx hs hr
      generalize numKO L j = X at hx1 hx2 hor HK
      generalize L.getD j 0 = B at hb hc hor HK
      go_wp2
      go_roundw
      case rel => exact ⟨j + 1, by omega, by go_num, by rw [← HK.out], trivial⟩
      case measure => simp [intOf]; omega
    · obtain rfl : j = 4 := by omega
      rw [show ((4 : Nat) : Int) = 4 from rfl, HN.out]
      go_wp2
      go_ret
      exact ⟨rfl, rfl⟩
end Go.Proofs.YtakgfdbjgeopdaaGreatDoor
/-
  The walk of Decode.
-/
namespace Go.Proofs.YtakgfdbjgeopdaaGreatDoor
open Go.RowKit
set_option linter.unusedVariables false

/-- the numbers of a command that is read, of which j stand -/
def decK (l : List Int) (j : Nat) : List Int := (List.range 5).map fun i => if i < j then numA l (4 * i) else 0
def rowOf (m : List Int) : Array Value := (m.map (Value.int .i64)).toArray
theorem decK_zero (l : List Int) : rowOf (decK l 0) = cmA 0 0 0 0 0 := rfl
theorem decK_five (l : List Int) : rowOf (decK l 5) = cmA (numA l 0) (numA l 4) (numA l 8) (numA l 12) (numA l 16) := rfl
theorem decK_set (l : List Int) (j : Nat) (hj : j < 5) : (rowOf (decK l j)).setIfInBounds j (.int .i64 (numA l (4 * j))) = rowOf (decK l (j + 1)) := by
  rcases (by omega : j = 0 ∨ j = 1 ∨ j = 2 ∨ j = 3 ∨ j = 4) with rfl | rfl | rfl | rfl | rfl
  all_goals rfl

set_option maxHeartbeats 1000000 in
set_option maxRecDepth 100000 in
theorem decode_any (v : Value) (l : List Int) (w : World) (h : Sl w v l) (ht : NTab w) :
    Calls Tryz.prog 61 #[v] w fun e w' => e = .returned (.tuple #[.agg (decV l), .int .i64 (decE l)]) ∧ Below w.heap.size w w' := by
  have hlen := h.len
  obtain ⟨a, cp, rfl⟩ := h.shape
  by_cases h1 : l.length = 20
  · have HE : Hid (decE l = comE (numA l 0) (numA l 4) (numA l 8) (numA l 12) (numA l 16)) := if_neg (fun g => g h1)
    have hs := h
    have HL : Hid (l.length = 20) := h1
    rw [h1] at hs ⊢
    clear h h1 hlen
    have b0 : Below w.heap.size w (w.alloc (.cells (cmA 0 0 0 0 0) 25)) := (Below.refl _ _).alloc (Nat.le_refl _) _
    have z0 : (w.alloc (.cells (cmA 0 0 0 0 0) 25)).heap.size = w.heap.size + 1 := by simp
    have r0 := heap_alloc_new w (.cells (cmA 0 0 0 0 0) 25)
    have b1 : Below (w.heap.size + 1) (w.alloc (.cells (cmA 0 0 0 0 0) 25)) ((w.alloc (.cells (cmA 0 0 0 0 0) 25)).alloc (.cells (cmA 0 0 0 0 0) 25)) := (Below.refl _ _).alloc (by omega) _
    have r1 := heap_alloc_new (w.alloc (.cells (cmA 0 0 0 0 0) 25)) (.cells (cmA 0 0 0 0 0) 25)
    rw [z0] at r1
    replace r0 := (b1.block w.heap.size (by omega)).trans r0
    have d1 := b0.trans (b1.mono (Nat.le_succ _))
    have z1 : ((w.alloc (.cells (cmA 0 0 0 0 0) 25)).alloc (.cells (cmA 0 0 0 0 0) 25)).heap.size = w.heap.size + 1 + 1 := by simp
    have hW : (w.alloc (.cells #[.int .i64 0, .int .i64 0, .int .i64 0, .int .i64 0, .int .i64 0] 25)).alloc (.cells #[.int .i64 0, .int .i64 0, .int .i64 0, .int .i64 0, .int .i64 0] 25) = (w.alloc (.cells (cmA 0 0 0 0 0) 25)).alloc (.cells (cmA 0 0 0 0 0) 25) := rfl
    clear b0 b1 z0
    generalize (w.alloc (.cells (cmA 0 0 0 0 0) 25)).alloc (.cells (cmA 0 0 0 0 0) 25) = W at r0 r1 d1 z1 hW
    go_enter Tryz.func61, Tryz.ntmps61
    go_wp2_with fail
    clear hW
    refine (numbersOf_any (w.heap.size + 1) W).mono ?_
    rintro e w2 ⟨rfl, b2⟩
    replace r0 := (b2.block w.heap.size (by omega)).trans r0
    replace r1 := (b2.block (w.heap.size + 1) (by omega)).trans r1
    have d2 := d1.trans (b2.mono d1.size)
    have HR0 : Hid _ := r0
    have HR1 : Hid (w2.heap[w.heap.size + 1]? = some (.cells (rowOf (decK l 0)) 25)) := r1
    clear r0 r1 b2 d1 z1
    have hix := pt_index (w.heap.size + 1)
    go_wp2_with fail
    go_loopw [13] (fun iv wr => ∃ j : Nat, j ≤ 5 ∧ iv = .int .i64 (j : Int) ∧ wr.heap[w.heap.size]? = some (.cells (cmA 0 0 0 0 0) 25) ∧ wr.heap[w.heap.size + 1]? = some (.cells (rowOf (decK l j)) 25) ∧ Below w.heap.size w wr) (fun iv _ => (5 - intOf iv).toNat)
    case atStart => exact ⟨0, by omega, rfl, HR0.out, HR1.out, d2⟩
    case round =>
      obtain ⟨j, hj, rfl, hr0, hr1, hbel⟩ := hrel
      clear HR0 HR1
      by_cases hj5 : j < 5
      · have hji : (j : Int) < 5 := by omega
        have hij := hix j hj5
        have hcell : ∃ x, wr.cell? ⟨w.heap.size + 1, j, none⟩ = some (.int .i64 x) := ⟨(decK l j).getD j 0, (cell_of_row _ _ j _ _ _ hr1).trans (by simp [rowOf, decK, hj5])⟩
        obtain ⟨x, hx⟩ := hcell
        have hfz := frozen_of_row wr _ j _ _ hr1
        have HR0 : Hid _ := hr0
        have HR1 : Hid _ := hr1
        have HS := decK_set l j hj5
        clear hix hr0 hr1
        go_wp2_with fail
        refine (numberAt_any (.slice a 20 cp) l (4 * j) wr (hs.below hbel) (by rw [HL.out]; omega) _ (by omega)).mono ?_
        rintro e w5 ⟨rfl, rfl⟩
        have q0 : (w5.setCell ⟨w.heap.size + 1, j, none⟩ (.int .i64 (numA l (4 * j)))).heap[w.heap.size]? = some (.cells (cmA 0 0 0 0 0) 25) := (heap_setCell_other _ _ _ _ (by simp)).trans HR0.out
        have q1 : (w5.setCell ⟨w.heap.size + 1, j, none⟩ (.int .i64 (numA l (4 * j)))).heap[w.heap.size + 1]? = some (.cells (rowOf (decK l (j + 1))) 25) := by
          rw [heap_setCell_same _ _ _ _ _ _ HR1.out, HS]
        have q2 : Below w.heap.size w (w5.setCell ⟨w.heap.size + 1, j, none⟩ (.int .i64 (numA l (4 * j)))) := hbel.setCell (p := ⟨w.heap.size + 1, j, none⟩) (Nat.le_succ _) _
        have Q0 : Hid _ := q0
        have Q1 : Hid _ := q1
        clear HS q0 q1 HR0 HR1
        generalize numA l (4 * j) = X at Q0 Q1 q2 ⊢
        go_wp2
        go_roundw
        case rel => exact ⟨j + 1, by omega, by go_num, Q0.out, Q1.out, q2⟩
        case measure => simp [intOf]; omega
      · obtain rfl : j = 5 := by omega
        rw [show ((5 : Nat) : Int) = 5 from rfl]
        have hr1' : wr.heap[w.heap.size + 1]? = some (.cells (cmA (numA l 0) (numA l 4) (numA l 8) (numA l 12) (numA l 16)) 25) := hr1
        clear hr1 hix
        have HV0 : Hid (decE l = 0 → decV l = cmA (numA l 0) (numA l 4) (numA l 8) (numA l 12) (numA l 16)) := fun h => if_pos h
        have HV1 : Hid (¬ decE l = 0 → decV l = cmA 0 0 0 0 0) := fun h => if_neg h
        have hT := ht.below hbel
        generalize numA l 0 = k at HE HV0 hr1'
        generalize numA l 4 = c at HE HV0 hr1'
        generalize numA l 8 = s at HE HV0 hr1'
        generalize numA l 12 = n at HE HV0 hr1'
        generalize numA l 16 = v at HE HV0 hr1'
        have hi := comInfo k c s n v
        have hi0 := comInfo 0 0 0 0 0
        have lt1 := (Array.getElem?_eq_some_iff.1 hr1').1
        go_wp2_with (refine wpList_load_row rfl 25 _ rfl (w.heap.size + 1) rfl 25 _ (0, 0) _ hr1' Tryz.underlying25 rfl hi ?_)
        refine (oCheck_any k c s n v wr hT).mono ?_
        rintro e w6 ⟨rfl, b6⟩
        have d6 := hbel.trans (b6.mono hbel.size)
        have q0 := (b6.block w.heap.size (by omega)).trans hr0
        have q1 := (b6.block (w.heap.size + 1) lt1).trans hr1'
        clear hr0 hr1' b6 hT hbel
        by_cases h2 : comE k c s n v = 0
        · have HZ : Hid (decE l = 0) := HE.out.trans h2
          have HV : Hid (decV l = cmA k c s n v) := HV0.out HZ.out
          rw [h2]
          clear h2 HE HV0 HV1
          go_wp2_with (first | (refine wpList_load_row rfl 25 _ rfl (w.heap.size + 1) rfl 25 _ (0, 0) _ q1 Tryz.underlying25 rfl hi ?_) | (refine wpList_store_row rfl 25 (.tmp 2) (.tmp 30) rfl w.heap.size (cmA k c s n v) rfl rfl 25 _ q0 hi rfl (cmA_one k c s n v) ?_))
          have r2 := setRow_heap w6 w.heap.size _ (cmA k c s n v) 25 _ q0
          refine bodyPost_ret (oRow2 rfl _ _ w.heap.size 25 _ (0, 0) _ rfl r2 Tryz.underlying25 rfl hi) rfl ?_
          rw [HZ.out, HV.out]
          exact ⟨rfl, oBelow_row d6 (Nat.le_refl _) _⟩
        · have HZ : Hid (decE l = comE k c s n v) := HE.out
          have HV : Hid (decV l = cmA 0 0 0 0 0) := HV1.out (by rw [HE.out]; exact h2)
          clear HE HV0 HV1
          go_wp2_with (refine wpList_store_row rfl 25 (.tmp 2) (.tmp 28) rfl w.heap.size (cmA 0 0 0 0 0) rfl rfl 25 _ q0 hi0 rfl (cmA_one 0 0 0 0 0) ?_)
          have r2 := setRow_heap w6 w.heap.size _ (cmA 0 0 0 0 0) 25 _ q0
          refine bodyPost_ret (oRow2 rfl _ _ w.heap.size 25 _ (0, 0) _ rfl r2 Tryz.underlying25 rfl hi0) rfl ?_
          rw [HZ.out, HV.out]
          exact ⟨rfl, oBelow_row d6 (Nat.le_refl _) _⟩
  · have h1' : ¬ (l.length : Int) = 20 := by omega
    have HE : Hid (decE l = 1) := if_pos h1
    have HV : Hid (decV l = cmA 0 0 0 0 0) := if_neg (by rw [HE.out]; omega)
    have bb : Below w.heap.size w (w.alloc (.cells (cmA 0 0 0 0 0) 25)) := (Below.refl _ _).alloc (Nat.le_refl _) _
    have bc := Bc.made w 0 0 0 0 0
    go_enter Tryz.func61, Tryz.ntmps61
    go_wp2
    refine bodyPost_ret (oRow2 rfl _ _ w.heap.size 25 _ (0, 0) _ rfl (heap_alloc_new _ _) Tryz.underlying25 rfl (comInfo 0 0 0 0 0)) rfl ?_
    rw [HE.out, HV.out]
    exact ⟨rfl, bb⟩
end Go.Proofs.YtakgfdbjgeopdaaGreatDoor
