/-
  The stream as plain functions of lists. No program is named here.
-/
import Derived.StillTail
import Derived.BigQuiet
import Derived.Deep.QuietTactic
import Derived.BigRegion
import Derived.Test.YtakgfdbjgeopdaaGreatDoorKp1
import Derived.Test.YtakgfdbjgeopdaaGreatDoorProg
namespace Go.Proofs.YtakgfdbjgeopdaaGreatDoor
open Go.RowKit

def gro1 (s : List (BitVec 32)) (a b : Nat) : List (BitVec 32) := s.set a (s.getD a 0#32 + s.getD b 0#32)
def gro2 (s : List (BitVec 32)) (a t n : Nat) : List (BitVec 32) := s.set t ((s.getD t 0#32 ^^^ s.getD a 0#32).rotateLeft n)
def growL (s : List (BitVec 32)) (a b t n : Nat) : List (BitVec 32) := gro2 (gro1 s a b) a t n
def quartL (s : List (BitVec 32)) (a b c d : Nat) : List (BitVec 32) := growL (growL (growL (growL s a b d 16) c d b 12) a b d 8) c d b 7
theorem gro1_length (s : List (BitVec 32)) (a b : Nat) : (gro1 s a b).length = s.length := by simp [gro1]
theorem gro2_length (s : List (BitVec 32)) (a t n : Nat) : (gro2 s a t n).length = s.length := by simp [gro2]
theorem growL_length (s : List (BitVec 32)) (a b t n : Nat) : (growL s a b t n).length = s.length := by rw [growL, gro2_length, gro1_length]
theorem quartL_length (s : List (BitVec 32)) (a b c d : Nat) : (quartL s a b c d).length = s.length := by simp only [quartL, growL_length]

/-- where the quarters of a turn stand -/
def qTab : List Nat := [0, 4, 8, 12, 1, 5, 9, 13, 2, 6, 10, 14, 3, 7, 11, 15, 0, 5, 10, 15, 1, 6, 11, 12, 2, 7, 8, 13, 3, 4, 9, 14]
/-- the first k quarters of a turn -/
def turnL (s : List (BitVec 32)) : Nat → List (BitVec 32)
  | 0 => s
  | k + 1 => quartL (turnL s k) (qTab.getD (4 * k) 0) (qTab.getD (4 * k + 1) 0) (qTab.getD (4 * k + 2) 0) (qTab.getD (4 * k + 3) 0)
def turnsL (s : List (BitVec 32)) : Nat → List (BitVec 32)
  | 0 => s
  | k + 1 => turnL (turnsL s k) 8
theorem turnL_length (s : List (BitVec 32)) (k : Nat) : (turnL s k).length = s.length := by
  induction k with
  | zero => rfl
  | succ k ih => rw [turnL, quartL_length, ih]
theorem turnsL_length (s : List (BitVec 32)) (k : Nat) : (turnsL s k).length = s.length := by
  induction k with
  | zero => rfl
  | succ k ih => rw [turnsL, turnL_length, ih]
theorem qTab_lt (i : Nat) : qTab.getD i 0 < 16 := by
  have all : ∀ j : Fin 32, qTab.getD j.val 0 < 16 := by decide
  rcases Nat.lt_or_ge i 32 with h | h
  · exact all ⟨i, h⟩
  · rw [List.getD, List.getElem?_eq_none (by simpa [qTab] using h)]; decide

/-- a word as four bytes, the lowest one first -/
def bytesU (x : BitVec 32) : List Int := [uw x % 256, uw x / 256 % 256, uw x / 65536 % 256, uw x / 16777216 % 256]
/-- the sum of two states -/
def addW (s t : List (BitVec 32)) (i : Nat) : BitVec 32 := s.getD i 0#32 + t.getD i 0#32
/-- the first k words, written -/
def outL (s t : List (BitVec 32)) : Nat → List Int
  | 0 => []
  | k + 1 => outL s t k ++ bytesU (addW s t k)
theorem outL_length (s t : List (BitVec 32)) (k : Nat) : (outL s t k).length = 4 * k := by
  induction k with
  | zero => rfl
  | succ k ih => simp [outL, bytesU, ih]; omega
theorem bytesU_byte (x : BitVec 32) : ∀ n ∈ bytesU x, 0 ≤ n ∧ n < 256 := by
  intro n hn
  simp only [bytesU, List.mem_cons, List.not_mem_nil, or_false] at hn
  rcases hn with rfl | rfl | rfl | rfl <;> omega
theorem outL_byte (s t : List (BitVec 32)) (k : Nat) : ∀ n ∈ outL s t k, 0 ≤ n ∧ n < 256 := by
  induction k with
  | zero => intro n hn; cases hn
  | succ k ih =>
    intro n hn
    rcases List.mem_append.1 hn with h | h
    · exact ih n h
    · exact bytesU_byte _ n h
/-- a block of a state -/
def blockL (s : List (BitVec 32)) : List Int := outL (turnsL s 10) s 16
theorem blockL_length (s : List (BitVec 32)) : (blockL s).length = 64 := outL_length _ _ _
theorem blockL_byte (s : List (BitVec 32)) : ∀ n ∈ blockL s, 0 ≤ n ∧ n < 256 := outL_byte _ _ _

/-- a word of four bytes, the lowest one first -/
def wordU (l : List Int) (i : Nat) : BitVec 32 := byteW (l.getD (4 * i) 0) ||| byteW (l.getD (4 * i + 1) 0) <<< 8 ||| byteW (l.getD (4 * i + 2) 0) <<< 16 ||| byteW (l.getD (4 * i + 3) 0) <<< 24
/-- the first k words of l, from place off on -/
def readL (s : List (BitVec 32)) (off : Nat) (l : List Int) : Nat → List (BitVec 32)
  | 0 => s
  | k + 1 => (readL s off l k).set (off + k) (wordU l k)
theorem readL_length (s : List (BitVec 32)) (off : Nat) (l : List Int) (k : Nat) : (readL s off l k).length = s.length := by
  induction k with
  | zero => rfl
  | succ k ih => simp [readL, ih]
def sigmaL : List (BitVec 32) := [1634760805#32, 857760878#32, 2036477234#32, 1797285236#32, 0#32, 0#32, 0#32, 0#32, 0#32, 0#32, 0#32, 0#32, 0#32, 0#32, 0#32, 0#32]
def begunL (key : List Int) (c : BitVec 32) (nonce : List Int) : List (BitVec 32) := readL ((readL sigmaL 4 key 8).set 12 c) 13 nonce 3
theorem begunL_length (key : List Int) (c : BitVec 32) (nonce : List Int) : (begunL key c nonce).length = 16 := by
  simp [begunL, readL_length, sigmaL]
theorem begunL_list (key : List Int) (c : BitVec 32) (nonce : List Int) : begunL key c nonce = [1634760805#32, 857760878#32, 2036477234#32, 1797285236#32, wordU key 0, wordU key 1, wordU key 2, wordU key 3, wordU key 4, wordU key 5, wordU key 6, wordU key 7, c, wordU nonce 0, wordU nonce 1, wordU nonce 2] := rfl
theorem begunL_counter (key : List Int) (c d : BitVec 32) (nonce : List Int) : (begunL key c nonce).set 12 d = begunL key d nonce := rfl
theorem begunL_at (key : List Int) (c : BitVec 32) (nonce : List Int) : (begunL key c nonce).getD 12 0#32 = c := rfl

/-- exclusive or of bytes -/
def bx (x y : Int) : Int := ((x.toNat ^^^ y.toNat : Nat) : Int)
theorem bx_byte {x y : Int} (hx : 0 ≤ x ∧ x < 256) (hy : 0 ≤ y ∧ y < 256) : 0 ≤ bx x y ∧ bx x y < 256 := by
  unfold bx
  have : x.toNat ^^^ y.toNat < 2 ^ 8 := Nat.xor_lt_two_pow (by omega) (by omega)
  omega
theorem bx_bx {x y : Int} (hy : 0 ≤ y) : bx x (bx x y) = y := by
  unfold bx
  rw [Int.toNat_natCast, ← Nat.xor_assoc, Nat.xor_self, Nat.zero_xor]
  omega
theorem bx_zero {x : Int} (hx : 0 ≤ x) : bx x 0 = x := by
  unfold bx
  rw [Int.toNat_zero, Nat.xor_zero]
  omega

/-- the byte of the stream of a state at a place -/
def strAt (s : List (BitVec 32)) (i : Nat) : Int := (blockL (s.set 12 (s.getD 12 0#32 + BitVec.ofNat 32 (i / 64)))).getD (i % 64) 0
theorem strAt_byte (s : List (BitVec 32)) (i : Nat) : 0 ≤ strAt s i ∧ strAt s i < 256 := getD_byte (blockL_byte _) _
/-- the first k bytes of d, mixed with the stream -/
def mixTo (s : List (BitVec 32)) (d : List Int) : Nat → List Int
  | 0 => []
  | k + 1 => mixTo s d k ++ [bx (strAt s k) (d.getD k 0)]
def mixL (s : List (BitVec 32)) (d : List Int) : List Int := mixTo s d d.length
theorem mixTo_length (s : List (BitVec 32)) (d : List Int) (k : Nat) : (mixTo s d k).length = k := by
  induction k with
  | zero => rfl
  | succ k ih => simp [mixTo, ih]
theorem mixL_length (s : List (BitVec 32)) (d : List Int) : (mixL s d).length = d.length := mixTo_length _ _ _
theorem mixTo_byte (s : List (BitVec 32)) {d : List Int} (hd : ∀ x ∈ d, 0 ≤ x ∧ x < 256) (k : Nat) : ∀ n ∈ mixTo s d k, 0 ≤ n ∧ n < 256 := by
  induction k with
  | zero => intro n hn; cases hn
  | succ k ih =>
    intro n hn
    rcases List.mem_append.1 hn with h | h
    · exact ih n h
    · obtain rfl : n = _ := by simpa using h
      exact bx_byte (strAt_byte _ _) (getD_byte hd k)
theorem mixL_byte (s : List (BitVec 32)) {d : List Int} (hd : ∀ x ∈ d, 0 ≤ x ∧ x < 256) : ∀ n ∈ mixL s d, 0 ≤ n ∧ n < 256 := mixTo_byte s hd _
theorem mixTo_at (s : List (BitVec 32)) (d : List Int) (k i : Nat) (hi : i < k) : (mixTo s d k).getD i 0 = bx (strAt s i) (d.getD i 0) := by
  induction k with
  | zero => omega
  | succ k ih =>
    rw [mixTo]
    rcases Nat.lt_or_ge i k with h | h
    · rw [← ih h]
      simp [List.getD, List.getElem?_append_left (show i < (mixTo s d k).length by rw [mixTo_length]; exact h)]
    · obtain rfl : i = k := by omega
      simp [List.getD, mixTo_length]
theorem list_ext {l m : List Int} (hl : l.length = m.length) (h : ∀ i, i < l.length → l.getD i 0 = m.getD i 0) : l = m := by
  refine List.ext_getElem hl fun i h1 h2 => ?_
  have := h i h1
  rwa [getD_at h1, getD_at h2] at this
theorem mix_twice (s : List (BitVec 32)) {d : List Int} (hd : ∀ x ∈ d, 0 ≤ x ∧ x < 256) : mixL s (mixL s d) = d := by
  refine list_ext (by rw [mixL_length, mixL_length]) fun i hi => ?_
  rw [mixL_length, mixL_length] at hi
  rw [mixL, mixTo_at _ _ _ _ (by rw [mixL_length]; exact hi), mixL, mixTo_at _ _ _ _ hi, bx_bx (getD_byte hd i).1]

end Go.Proofs.YtakgfdbjgeopdaaGreatDoor
/-
  A region that draws its order, whose operations read but for a tail of one store: one walk, in the order of the text. No program is named here.
-/
namespace Go.Proofs.YtakgfdbjgeopdaaGreatDoor
open Go.RowKit

theorem still_of_quiet {P : Program} {ops : Array Oper} {w : World} {Q : Act → Prop} : ∀ (l : List Oper) (a : Act), wpQuiet P ops (fun w' => w' = w) Q l a → wpStill P ops w Q l a
  | [], _, h => h
  | o :: rest, a, h => by
    unfold wpQuiet at h
    unfold wpStill
    split
    · rename_i hw
      rw [if_pos hw] at h
      obtain ⟨v, h1, h2⟩ := h
      have h3 := h1 w rfl
      unfold Oper.quietAt at h3
      unfold Oper.still
      generalize (execOp a.eval o).run P w = r at h3 ⊢
      cases r with
      | ok n w' =>
        cases n <;> simp only [Oper.quietUpon] at h3 <;> simp only [Oper.stillUpon]
        case value u =>
          obtain ⟨e1, e2⟩ := h3
          rw [e2]
          exact ⟨e1, still_of_quiet rest _ h2⟩
        case skip =>
          obtain ⟨e1, e2⟩ := h3
          rw [← e2]
          exact ⟨e1, still_of_quiet rest _ h2⟩
        case enter f args => exact ⟨h3.1, v, h3.2, still_of_quiet rest _ h2⟩
      | halt x w' => simp only [Oper.quietUpon] at h3
    · rename_i hw
      rw [if_neg hw] at h
      exact still_of_quiet rest _ h

theorem wp_region_quiet_tail {P : Program} {id : Nat} {Q : Exit → Act → World → Prop} {a : Act} {w : World} {l : List Oper} (n : Nat) (hm : P.follows .mixedOrders = true) (hB : Region.lexTailB .any l.toArray n = true)
    (h : wpQuiet P l.toArray (fun w' => w' = w.drew) (fun a' => wpList P l.toArray Q (l.drop n) a' w.drew) (l.take n) a) : (Code.region id l.toArray true).wp P Q a w :=
  wp_region_still_tail n hm hB (still_of_quiet _ _ h)

end Go.Proofs.YtakgfdbjgeopdaaGreatDoor
/-
  The walks of a quarter.
-/
namespace Go.Proofs.YtakgfdbjgeopdaaGreatDoor
open Go.RowKit

theorem ret_u32' {a b : Int} (h : a = b) : Ending.returned (.int .u32 a) = .returned (.int .u32 b) := by rw [h]

theorem and31p (n : Nat) (h1 : n ≤ 31) : bits .and .u64 (n : Int) 31 = (n : Int) := by
  rw [show (31 : Int) = ((31 : Nat) : Int) from rfl, u64_and_nat _ _ (by omega) (by omega), nat_mask5]
  omega

theorem uw_rotl (x : BitVec 32) (n : Nat) (h0 : 1 ≤ n) (h1 : n ≤ 31) : bits .or .u32 (uw x * 2 ^ n % 4294967296) (uw x / 2 ^ (32 - n)) = uw (x.rotateLeft n) := by
  rw [uw_shl, uw_shr, uw_or, uw_inj]
  rw [BitVec.rotateLeft_def, Nat.mod_eq_of_lt (by omega : n < 32)]

theorem rotl_pos (x : BitVec 32) (n : Nat) (w : World) (h0 : 1 ≤ n) (h1 : n ≤ 31) :
    Calls Tryz.prog 242 #[.int .u32 (uw x), .int .i64 (n : Int)] w fun e w' => e = .returned (.int .u32 (uw (x.rotateLeft n))) ∧ w' = w := by
  have a1 := uw_lo x
  have a2 := uw_hi x
  have a3 := and31p n h1
  go_enter Tryz.func242, Tryz.ntmps242
  go_wp2
  go_ret
  exact ⟨ret_u32' (uw_rotl x n h0 h1), rfl⟩

theorem rotl_at (v : Int) (x : BitVec 32) (hv : v = uw x) (n : Nat) (w : World) (h0 : 1 ≤ n) (h1 : n ≤ 31) :
    Calls Tryz.prog 242 #[.int .u32 v, .int .i64 (n : Int)] w fun e w' => e = .returned (.int .u32 (uw (x.rotateLeft n))) ∧ w' = w := by
  subst hv
  exact rotl_pos x n w h0 h1

theorem st_store {w : World} {g : Nat} {ws : List (BitVec 32)} (h : w.heap[g]? = some (.cells (wArr ws) 233 (0, 0))) (k : Nat) (x : BitVec 32) :
    (w.setCell ⟨g, k, none⟩ (.int .u32 (uw x))).heap[g]? = some (.cells (wArr (ws.set k x)) 233 (0, 0)) := by
  rw [heap_setCell_same _ _ _ _ _ _ h, wArr_set]

set_option maxHeartbeats 1000000 in
set_option maxRecDepth 100000 in
theorem grow_any (g : Nat) (ws : List (BitVec 32)) (w : World) (hw : w.heap[g]? = some (.cells (wArr ws) 233 (0, 0))) (hl : ws.length = 16) (a b t n : Nat) (ha : a < 16) (hb : b < 16) (ht : t < 16) (h0 : 1 ≤ n) (h1 : n ≤ 31) :
    Calls Tryz.prog 254 #[.pointer (some ⟨g, 0, none⟩), .int .i64 a, .int .i64 b, .int .i64 t, .int .i64 n] w fun e w' => e = .returned (.tuple #[]) ∧ w'.heap[g]? = some (.cells (wArr (growL ws a b t n)) 233 (0, 0)) ∧ Below g w w' := by
  have ca := (cell_of_row w _ a _ _ _ hw).trans (wArr_get ws a (by omega))
  have cb := (cell_of_row w _ b _ _ _ hw).trans (wArr_get ws b (by omega))
  have fa := frozen_of_row w _ a _ _ hw
  have HA : Hid (gro1 ws a b = ws.set a (ws.getD a 0#32 + ws.getD b 0#32)) := rfl
  have HW : Hid _ := hw
  have HL : Hid (ws.length = 16) := hl
  clear hw hl
  generalize ws.getD a 0#32 = x at ca HA
  generalize ws.getD b 0#32 = y at cb HA
  go_enter Tryz.func254, Tryz.ntmps254
  go_wp2_with fail
  refine wp_region_quiet_tail 13 (by kernel_rfl) (by kernel_rfl) ?_
  simp only [List.take_succ_cons, List.take_zero, List.drop_succ_cons, List.drop_zero]
  repeat (go_big_quiet_step (fail))
  refine wpQuiet_nil ?_
  go_wp2_with fail
  rw [uw_sum2]
  generalize hW1 : (w.setCell _ _).drew = W1
  have r1 : W1.heap[g]? = some (.cells (wArr (gro1 ws a b)) 233 (0, 0)) := by rw [← hW1, HA.out]; exact st_store HW.out a _
  have b1 : Below g w W1 := by rw [← hW1]; exact ((Below.refl g w).setCell (p := ⟨g, a, none⟩) (Nat.le_refl _) _).drew
  have hl1 : (gro1 ws a b).length = 16 := by rw [gro1_length]; exact HL.out
  have H2 : Hid (growL ws a b t n = (gro1 ws a b).set t (((gro1 ws a b).getD t 0#32 ^^^ (gro1 ws a b).getD a 0#32).rotateLeft n)) := rfl
  clear hW1 HA HW HL ca cb fa
  generalize gro1 ws a b = vs at r1 hl1 H2
  have ca := (cell_of_row W1 _ a _ _ _ r1).trans (wArr_get vs a (by omega))
  have ct := (cell_of_row W1 _ t _ _ _ r1).trans (wArr_get vs t (by omega))
  have ft := frozen_of_row W1 _ t _ _ r1
  generalize vs.getD a 0#32 = x2 at ca H2
  generalize vs.getD t 0#32 = y2 at ct H2
  have HR : Hid _ := r1
  clear r1 hl1
  refine wp_region_quiet_tail 17 (by kernel_rfl) (by kernel_rfl) ?_
  simp only [List.take_succ_cons, List.take_zero, List.drop_succ_cons, List.drop_zero]
  repeat (go_big_quiet_step (fail))
  go_big_quiet_want
  go_big_quiet_op
  refine ⟨_, rotl_at _ (y2 ^^^ x2) (uw_xor y2 x2) n _ h0 h1, ?_⟩
  go_big_quiet_on
  repeat (go_big_quiet_step (fail))
  refine wpQuiet_nil ?_
  go_wp2
  go_end0
  refine ⟨rfl, ?_, b1.trans (((Below.refl g W1).setCell (p := ⟨g, t, none⟩) (Nat.le_refl _) _).drew)⟩
  rw [H2.out]
  exact st_store (w := W1.drew) HR.out t _

set_option maxHeartbeats 1000000 in
theorem quarter_any (g : Nat) (ws : List (BitVec 32)) (w : World) (hw : w.heap[g]? = some (.cells (wArr ws) 233 (0, 0))) (hl : ws.length = 16) (a b c d : Nat) (ha : a < 16) (hb : b < 16) (hc : c < 16) (hd : d < 16) :
    Calls Tryz.prog 243 #[.pointer (some ⟨g, 0, none⟩), .int .i64 a, .int .i64 b, .int .i64 c, .int .i64 d] w fun e w' => e = .returned (.tuple #[]) ∧ w'.heap[g]? = some (.cells (wArr (quartL ws a b c d)) 233 (0, 0)) ∧ Below g w w' := by
  go_enter Tryz.func243, Tryz.ntmps243
  go_wp2_with fail
  refine (grow_any g ws w hw hl a b d 16 ha hb hd (by omega) (by omega)).mono ?_
  rintro e w1 ⟨rfl, r1, b1⟩
  go_wp2_with fail
  refine (grow_any g _ w1 r1 (by rw [growL_length]; exact hl) c d b 12 hc hd hb (by omega) (by omega)).mono ?_
  rintro e w2 ⟨rfl, r2, b2⟩
  go_wp2_with fail
  refine (grow_any g _ w2 r2 (by rw [growL_length, growL_length]; exact hl) a b d 8 ha hb hd (by omega) (by omega)).mono ?_
  rintro e w3 ⟨rfl, r3, b3⟩
  go_wp2_with fail
  refine (grow_any g _ w3 r3 (by rw [growL_length, growL_length, growL_length]; exact hl) c d b 7 hc hd hb (by omega) (by omega)).mono ?_
  rintro e w4 ⟨rfl, r4, b4⟩
  go_wp2
  go_end0
  exact ⟨rfl, r4, ((b1.trans b2).trans b3).trans b4⟩
end Go.Proofs.YtakgfdbjgeopdaaGreatDoor
/-
  The row of the table for bytes.
-/
namespace Go.Proofs.YtakgfdbjgeopdaaGreatDoor
theorem info5 : (Tryz.prog.info? 5).map (fun i => (i.zero, i.size, i.bytes)) = some (some (.int .u8 0), 1, 1) := by kernel_rfl
end Go.Proofs.YtakgfdbjgeopdaaGreatDoor
/-
  The walks of the reading of words and of the state ahead of the first turn.
-/
namespace Go.Proofs.YtakgfdbjgeopdaaGreatDoor
open Go.RowKit

theorem shl_byte' (x : BitVec 32) (h : uw x < 256) : uw x * 16777216 = uw (x <<< 24) ∧ uw x * 65536 = uw (x <<< 16) ∧ uw x * 256 = uw (x <<< 8) := by
  have h0 := uw_lo x
  have e24 := uw_shl x 24
  have e16 := uw_shl x 16
  have e8 := uw_shl x 8
  rw [← e24, ← e16, ← e8]
  refine ⟨?_, ?_, ?_⟩
  · rw [show (2 : Int) ^ 24 = 16777216 from rfl]; omega
  · rw [show (2 : Int) ^ 16 = 65536 from rfl]; omega
  · rw [show (2 : Int) ^ 8 = 256 from rfl]; omega

set_option maxHeartbeats 1000000 in
set_option maxRecDepth 100000 in
theorem readWords_any (g off n cap : Nat) (ws : List (BitVec 32)) (v : Value) (l : List Int) (w : World) (hw : w.heap[g]? = some (.cells (wArr ws) 233 (0, 0))) (hws : ws.length = 16) (hoff : off + n ≤ 16) (hn0 : 0 < n)
    (h : Sl w v l) (hl : l.length = 4 * n) (hvb : ∀ b o m c, v = .slice (some ⟨b, o, none⟩) m c → b < g) :
    Calls Tryz.prog 221 #[.slice (some ⟨g, off, none⟩) n cap, v] w fun e w' => e = .returned (.tuple #[]) ∧ w'.heap[g]? = some (.cells (wArr (readL ws off l n)) 233 (0, 0)) ∧ Below g w w' := by
  obtain ⟨⟨a, cap', rfl, hc, hn, h1⟩, hla, hba⟩ := h
  rcases h1 with rfl | ⟨b, o, rfl, hb, hcell⟩
  · simp at hl; omega
  have hbg := hvb _ _ _ _ rfl
  clear hvb
  rw [hl] at hc hla hcell ⊢
  have HC : Hid (∀ i, i < 4 * n → w.cell? ⟨b, o + i, none⟩ = some (.int .u8 (uw (byteW (l.getD i 0))))) := fun i hi => by rw [uw_byte _ (getD_byte hba i)]; exact hcell i hi
  have HB : Hid (∀ i, uw (byteW (l.getD i 0)) < 256) := fun i => by rw [uw_byte _ (getD_byte hba i)]; exact (getD_byte hba i).2
  clear hl hn hcell hba
  go_enter Tryz.func221, Tryz.ntmps221
  go_wp2_with fail
  go_loopw [7] (fun i wr => ∃ k : Nat, k ≤ n ∧ i = .int .i64 k ∧ wr.heap[g]? = some (.cells (wArr (readL ws off l k)) 233 (0, 0)) ∧ Below g w wr) (fun i _ => n - (intOf i).toNat)
  case atStart => exact ⟨0, by omega, rfl, hw, Below.refl _ _⟩
  case round =>
    clear hw
    obtain ⟨k, hk, rfl, hW, hbel⟩ := hrel
    by_cases hkn : k < n
    · have hfw : wr.frozen? ⟨g, off + k, none⟩ = false := frozen_of_row wr _ (off + k) _ _ hW
      have hz := wArr_get (readL ws off l k) (off + k) (by rw [readL_length]; omega)
      have hcw : wr.cell? ⟨g, off + k, none⟩ = some (.int .u32 (uw ((readL ws off l k).getD (off + k) 0#32))) := (cell_of_row wr _ (off + k) _ _ _ hW).trans hz
      have c0 := (hbel.cell (p := ⟨b, o + (4 * k), none⟩) hbg).trans (HC.out (4 * k) (by omega))
      have c1 := (hbel.cell (p := ⟨b, o + (4 * k + 1), none⟩) hbg).trans (HC.out (4 * k + 1) (by omega))
      have c2 := (hbel.cell (p := ⟨b, o + (4 * k + 2), none⟩) hbg).trans (HC.out (4 * k + 2) (by omega))
      have c3 := (hbel.cell (p := ⟨b, o + (4 * k + 3), none⟩) hbg).trans (HC.out (4 * k + 3) (by omega))
      have l0 := HB.out (4 * k)
      have l1 := HB.out (4 * k + 1)
      have l2 := HB.out (4 * k + 2)
      have l3 := HB.out (4 * k + 3)
      obtain ⟨wd, HW, HV⟩ : ∃ wd, Hid (wd = wordU l k) ∧ Hid (readL ws off l (k + 1) = (readL ws off l k).set (off + k) wd) := ⟨_, rfl, rfl⟩
      unfold wordU at HW
      generalize byteW (l.getD (4 * k) 0) = x0 at c0 l0 HW
      generalize byteW (l.getD (4 * k + 1) 0) = x1 at c1 l1 HW
      generalize byteW (l.getD (4 * k + 2) 0) = x2 at c2 l2 HW
      generalize byteW (l.getD (4 * k + 3) 0) = x3 at c3 l3 HW
      obtain ⟨y1, s1, e1⟩ : ∃ y, uw x1 * 256 = uw y ∧ x1 <<< 8 = y := ⟨_, (shl_byte' x1 l1).2.2, rfl⟩
      obtain ⟨y2, s2, e2⟩ : ∃ y, uw x2 * 65536 = uw y ∧ x2 <<< 16 = y := ⟨_, (shl_byte' x2 l2).2.1, rfl⟩
      obtain ⟨y3, s3, e3⟩ : ∃ y, uw x3 * 16777216 = uw y ∧ x3 <<< 24 = y := ⟨_, (shl_byte' x3 l3).1, rfl⟩
      rw [e1, e2, e3] at HW
      clear e1 e2 e3
      have z0 := uw_lo x0
      have z1 := uw_lo x1
      have z2 := uw_lo x2
      have z3 := uw_lo x3
      clear hz
      go_wp2_with fail
      refine wp_region_quiet_tail 36 (by kernel_rfl) (by kernel_rfl) ?_
      simp only [List.take_succ_cons, List.take_zero, List.drop_succ_cons, List.drop_zero]
      repeat (go_big_quiet_step (fail))
      refine wpQuiet_nil ?_
      go_wp2
      rw [uw_or, uw_or, uw_or, ← HW.out]
      go_roundw
      case rel => exact ⟨k + 1, by omega, by go_num, by rw [HV.out]; exact st_store hW (off + k) wd, (hbel.setCell (p := ⟨g, off + k, none⟩) (Nat.le_refl _) _).drew⟩
      case measure => simp [intOf]; omega
    · have HK : Hid (k = n) := by unfold Hid; omega
      go_wp2
      go_end0
      exact ⟨rfl, by rw [← HK.out]; exact hW, hbel⟩

theorem below_setRowAt' {B : Nat} {a w : World} (h : Below B a w) {g : Nat} (hg : B ≤ g) (cs : Array Value) : Below B a (w.setRow g cs) :=
  h.trans ⟨rfl, rfl, rfl, by simp, fun k hk => setRow_other w g k cs (by omega)⟩

set_option maxHeartbeats 1000000 in
set_option maxRecDepth 100000 in
theorem begun_any (vk vn : Value) (key nonce : List Int) (c : Nat) (w : World) (hk : Sl w vk key) (hn : Sl w vn nonce) (lk : key.length = 32) (ln : nonce.length = 12) (hc : c ≤ 2000000000) :
    Calls Tryz.prog 181 #[vk, .int .i64 c, vn] w fun e w' => e = .returned (.agg (wArr (begunL key (BitVec.ofNat 32 c) nonce))) ∧ Below w.heap.size w w' := by
  have hvk : ∀ b o m c, vk = .slice (some ⟨b, o, none⟩) m c → b < w.heap.size := by
    intro b o m c e
    obtain ⟨⟨a, cap, rfl, _, _, h1⟩, _, _⟩ := hk
    rcases h1 with rfl | ⟨b', off', e', hb, _⟩
    · simp at lk
    · rw [e'] at e
      simp only [Value.slice.injEq, Option.some.injEq, Addr.mk.injEq, and_true] at e
      omega
  have hvn : ∀ b o m c, vn = .slice (some ⟨b, o, none⟩) m c → b < w.heap.size := by
    intro b o m c e
    obtain ⟨⟨a, cap, rfl, _, _, h1⟩, _, _⟩ := hn
    rcases h1 with rfl | ⟨b', off', e', hb, _⟩
    · simp at ln
    · rw [e'] at e
      simp only [Value.slice.injEq, Option.some.injEq, Addr.mk.injEq, and_true] at e
      omega
  go_enter Tryz.func181, Tryz.ntmps181
  go_wp2_with fail
  generalize hW0 : (w.alloc _).alloc _ = W0
  have hr0 : W0.heap[w.heap.size + 1]? = some (.cells (wArr sigmaL) 233 (0, 0)) := by rw [← hW0]; exact heap_alloc2_new _ _ _
  have hq0 : W0.heap[w.heap.size]? = some (.cells (wArr (List.replicate 16 0#32)) 233 (0, 0)) := by rw [← hW0]; exact heap_alloc2_old _ _ _
  have hb0 : Below w.heap.size w W0 := by rw [← hW0]; exact ((Below.refl _ _).alloc (Nat.le_refl _) _).alloc (by simp) _
  clear hW0
  refine (readWords_any (w.heap.size + 1) 4 8 12 sigmaL vk key W0 hr0 rfl (by omega) (by omega) (hk.below hb0) lk (fun b o m c e => Nat.lt_succ_of_lt (hvk b o m c e))).mono ?_
  rintro e w1 ⟨rfl, hr1, hb1⟩
  have hq1 := (hb1.block w.heap.size (by omega)).trans hq0
  have hB1 : Below w.heap.size w w1 := hb0.trans (hb1.mono (by omega))
  have hl1 : (readL sigmaL 4 key 8).length = 16 := by rw [readL_length]; rfl
  have HG : Hid (begunL key (BitVec.ofNat 32 c) nonce = readL ((readL sigmaL 4 key 8).set 12 (BitVec.ofNat 32 c)) 13 nonce 3) := rfl
  have hcv : (c : Int) = uw (BitVec.ofNat 32 c) := by unfold uw; rw [BitVec.toNat_ofNat, Nat.mod_eq_of_lt (by omega)]
  have HCV : Hid ((c : Int) = uw (BitVec.ofNat 32 c)) := hcv
  clear hr0 hq0 hb0 hb1 hcv
  generalize readL sigmaL 4 key 8 = vs at hr1 hl1 HG
  have hcw := (cell_of_row w1 _ 12 _ _ _ hr1).trans (wArr_get vs 12 (by omega))
  have hfw := frozen_of_row w1 _ 12 _ _ hr1
  go_wp2_with fail
  rw [HCV.out]
  generalize hcw2 : BitVec.ofNat 32 c = cw at HG ⊢
  have HCW : Hid (BitVec.ofNat 32 c = cw) := hcw2
  clear hcw2
  generalize hW2 : w1.setCell _ _ = W2
  have hr2 : W2.heap[w.heap.size + 1]? = some (.cells (wArr (vs.set 12 cw)) 233 (0, 0)) := by rw [← hW2]; exact st_store hr1 12 cw
  have hq2 : W2.heap[w.heap.size]? = some (.cells (wArr (List.replicate 16 0#32)) 233 (0, 0)) := by rw [← hW2]; exact (heap_setCell_other _ _ _ _ (by simp)).trans hq1
  have hB2 : Below w.heap.size w W2 := by rw [← hW2]; exact hB1.setCell (p := ⟨w.heap.size + 1, 12, none⟩) (by simp) _
  clear hW2 hr1 hq1 hB1 hcw hfw
  refine (readWords_any (w.heap.size + 1) 13 3 3 (vs.set 12 cw) vn nonce W2 hr2 (by simpa using hl1) (by omega) (by omega) (hn.below hB2) ln (fun b o m c e => Nat.lt_succ_of_lt (hvn b o m c e))).mono ?_
  rintro e w3 ⟨rfl, hr3, hb3⟩
  have hq3 := (hb3.block w.heap.size (by omega)).trans hq2
  have hB3 : Below w.heap.size w w3 := hB2.trans (hb3.mono (by omega))
  have hl3 : (readL (vs.set 12 cw) 13 nonce 3).length = 16 := by rw [readL_length]; simpa using hl1
  clear hr2 hq2 hB2 hb3
  rw [← HG.out] at hr3 hl3
  generalize hus : begunL key cw nonce = us at hr3 hl3
  have HUS : Hid (begunL key cw nonce = us) := hus
  clear hus
  have hsz : (Tryz.prog.info? 233).map (·.size) = some (wArr us).size := by rw [wArr_size, hl3]; kernel_rfl
  have hone : (wArr us).all (·.oneCell') = true := by simp [wArr, Value.oneCell']
  go_wp2_with (first | (refine wpList_load_row rfl 233 _ rfl (w.heap.size + 1) rfl 233 _ (0, 0) _ hr3 Tryz.underlying233 rfl hsz ?_) | (refine wpList_store_row rfl 233 _ _ rfl w.heap.size _ rfl rfl 233 _ hq3 hsz (by rw [wArr_size, wArr_size, hl3]; rfl) hone ?_))
  refine bodyPost_ret (v := .agg (wArr us)) (results_cell_row rfl _ _ w.heap.size 233 _ (0, 0) _ rfl (setRow_heap w3 w.heap.size _ _ 233 _ hq3) Tryz.underlying233 rfl hsz) rfl ⟨by rw [HCW.out, HUS.out], below_setRowAt' hB3 (Nat.le_refl _) _⟩
end Go.Proofs.YtakgfdbjgeopdaaGreatDoor
