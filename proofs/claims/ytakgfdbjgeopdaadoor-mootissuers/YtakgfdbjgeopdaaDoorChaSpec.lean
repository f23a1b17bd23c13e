/-
  The stream as plain functions of lists. No program is named here.
-/
import Derived.Test.YtakgfdbjgeopdaaDoorShaSpec
namespace Go.Proofs.YtakgfdbjgeopdaaDoor
open Go.RowKit

def gro1 (s : List (BitVec 32)) (a b : Nat) : List (BitVec 32) := s.set a (s.getD a 0#32 + s.getD b 0#32)
def gro2 (s : List (BitVec 32)) (a t n : Nat) : List (BitVec 32) := s.set t ((s.getD t 0#32 ^^^ s.getD a 0#32).rotateLeft n)
def growL (s : List (BitVec 32)) (a b t n : Nat) : List (BitVec 32) := gro2 (gro1 s a b) a t n
def quartL (s : List (BitVec 32)) (a b c d : Nat) : List (BitVec 32) := growL (growL (growL (growL s a b d 16) c d b 12) a b d 8) c d b 7
theorem gro1_length (s : List (BitVec 32)) (a b : Nat) : (gro1 s a b).length = s.length := by simp [gro1]
theorem gro2_length (s : List (BitVec 32)) (a t n : Nat) : (gro2 s a t n).length = s.length := by simp [gro2]
theorem growL_length (s : List (BitVec 32)) (a b t n : Nat) : (growL s a b t n).length = s.length := by rw [growL, gro2_length, gro1_length]
theorem quartL_length (s : List (BitVec 32)) (a b c d : Nat) : (quartL s a b c d).length = s.length := by simp only [quartL, growL_length]

/-- where the quarters of a turn stand -/
def qTab : List Nat := [0, 4, 8, 12, 1, 5, 9, 13, 2, 6, 10, 14, 3, 7, 11, 15, 0, 5, 10, 15, 1, 6, 11, 12, 2, 7, 8, 13, 3, 4, 9, 14]
/-- the first k quarters of a turn -/
def turnL (s : List (BitVec 32)) : Nat → List (BitVec 32)
  | 0 => s
  | k + 1 => quartL (turnL s k) (qTab.getD (4 * k) 0) (qTab.getD (4 * k + 1) 0) (qTab.getD (4 * k + 2) 0) (qTab.getD (4 * k + 3) 0)
def turnsL (s : List (BitVec 32)) : Nat → List (BitVec 32)
  | 0 => s
  | k + 1 => turnL (turnsL s k) 8
theorem turnL_length (s : List (BitVec 32)) (k : Nat) : (turnL s k).length = s.length := by
  induction k with
  | zero => rfl
  | succ k ih => rw [turnL, quartL_length, ih]
theorem turnsL_length (s : List (BitVec 32)) (k : Nat) : (turnsL s k).length = s.length := by
  induction k with
  | zero => rfl
  | succ k ih => rw [turnsL, turnL_length, ih]
theorem qTab_lt (i : Nat) : qTab.getD i 0 < 16 := by
  have all : ∀ j : Fin 32, qTab.getD j.val 0 < 16 := by decide
  rcases Nat.lt_or_ge i 32 with h | h
  · exact all ⟨i, h⟩
  · rw [List.getD, List.getElem?_eq_none (by simpa [qTab] using h)]; decide

/-- a word as four bytes, the lowest one first -/
def bytesU (x : BitVec 32) : List Int := [uw x % 256, uw x / 256 % 256, uw x / 65536 % 256, uw x / 16777216 % 256]
/-- the sum of two states -/
def addW (s t : List (BitVec 32)) (i : Nat) : BitVec 32 := s.getD i 0#32 + t.getD i 0#32
/-- the first k words, written -/
def outL (s t : List (BitVec 32)) : Nat → List Int
  | 0 => []
  | k + 1 => outL s t k ++ bytesU (addW s t k)
theorem outL_length (s t : List (BitVec 32)) (k : Nat) : (outL s t k).length = 4 * k := by
  induction k with
  | zero => rfl
  | succ k ih => simp [outL, bytesU, ih]; omega
theorem bytesU_byte (x : BitVec 32) : ∀ n ∈ bytesU x, 0 ≤ n ∧ n < 256 := by
  intro n hn
  simp only [bytesU, List.mem_cons, List.not_mem_nil, or_false] at hn
  rcases hn with rfl | rfl | rfl | rfl <;> omega
theorem outL_byte (s t : List (BitVec 32)) (k : Nat) : ∀ n ∈ outL s t k, 0 ≤ n ∧ n < 256 := by
  induction k with
  | zero => intro n hn; cases hn
  | succ k ih =>
    intro n hn
    rcases List.mem_append.1 hn with h | h
    · exact ih n h
    · exact bytesU_byte _ n h
/-- a block of a state -/
def blockL (s : List (BitVec 32)) : List Int := outL (turnsL s 10) s 16
theorem blockL_length (s : List (BitVec 32)) : (blockL s).length = 64 := outL_length _ _ _
theorem blockL_byte (s : List (BitVec 32)) : ∀ n ∈ blockL s, 0 ≤ n ∧ n < 256 := outL_byte _ _ _

/-- a word of four bytes, the lowest one first -/
def wordU (l : List Int) (i : Nat) : BitVec 32 := byteW (l.getD (4 * i) 0) ||| byteW (l.getD (4 * i + 1) 0) <<< 8 ||| byteW (l.getD (4 * i + 2) 0) <<< 16 ||| byteW (l.getD (4 * i + 3) 0) <<< 24
/-- the first k words of l, from place off on -/
def readL (s : List (BitVec 32)) (off : Nat) (l : List Int) : Nat → List (BitVec 32)
  | 0 => s
  | k + 1 => (readL s off l k).set (off + k) (wordU l k)
theorem readL_length (s : List (BitVec 32)) (off : Nat) (l : List Int) (k : Nat) : (readL s off l k).length = s.length := by
  induction k with
  | zero => rfl
  | succ k ih => simp [readL, ih]
def sigmaL : List (BitVec 32) := [1634760805#32, 857760878#32, 2036477234#32, 1797285236#32, 0#32, 0#32, 0#32, 0#32, 0#32, 0#32, 0#32, 0#32, 0#32, 0#32, 0#32, 0#32]
def begunL (key : List Int) (c : BitVec 32) (nonce : List Int) : List (BitVec 32) := readL ((readL sigmaL 4 key 8).set 12 c) 13 nonce 3
theorem begunL_length (key : List Int) (c : BitVec 32) (nonce : List Int) : (begunL key c nonce).length = 16 := by
  simp [begunL, readL_length, sigmaL]
theorem begunL_list (key : List Int) (c : BitVec 32) (nonce : List Int) : begunL key c nonce = [1634760805#32, 857760878#32, 2036477234#32, 1797285236#32, wordU key 0, wordU key 1, wordU key 2, wordU key 3, wordU key 4, wordU key 5, wordU key 6, wordU key 7, c, wordU nonce 0, wordU nonce 1, wordU nonce 2] := rfl
theorem begunL_counter (key : List Int) (c d : BitVec 32) (nonce : List Int) : (begunL key c nonce).set 12 d = begunL key d nonce := rfl
theorem begunL_at (key : List Int) (c : BitVec 32) (nonce : List Int) : (begunL key c nonce).getD 12 0#32 = c := rfl

/-- exclusive or of bytes -/
def bx (x y : Int) : Int := ((x.toNat ^^^ y.toNat : Nat) : Int)
theorem bx_byte {x y : Int} (hx : 0 ≤ x ∧ x < 256) (hy : 0 ≤ y ∧ y < 256) : 0 ≤ bx x y ∧ bx x y < 256 := by
  unfold bx
  have : x.toNat ^^^ y.toNat < 2 ^ 8 := Nat.xor_lt_two_pow (by omega) (by omega)
  omega
theorem bx_bx {x y : Int} (hy : 0 ≤ y) : bx x (bx x y) = y := by
  unfold bx
  rw [Int.toNat_natCast, ← Nat.xor_assoc, Nat.xor_self, Nat.zero_xor]
  omega
theorem bx_zero {x : Int} (hx : 0 ≤ x) : bx x 0 = x := by
  unfold bx
  rw [Int.toNat_zero, Nat.xor_zero]
  omega

/-- the byte of the stream of a state at a place -/
def strAt (s : List (BitVec 32)) (i : Nat) : Int := (blockL (s.set 12 (s.getD 12 0#32 + BitVec.ofNat 32 (i / 64)))).getD (i % 64) 0
theorem strAt_byte (s : List (BitVec 32)) (i : Nat) : 0 ≤ strAt s i ∧ strAt s i < 256 := getD_byte (blockL_byte _) _
/-- the first k bytes of d, mixed with the stream -/
def mixTo (s : List (BitVec 32)) (d : List Int) : Nat → List Int
  | 0 => []
  | k + 1 => mixTo s d k ++ [bx (strAt s k) (d.getD k 0)]
def mixL (s : List (BitVec 32)) (d : List Int) : List Int := mixTo s d d.length
theorem mixTo_length (s : List (BitVec 32)) (d : List Int) (k : Nat) : (mixTo s d k).length = k := by
  induction k with
  | zero => rfl
  | succ k ih => simp [mixTo, ih]
theorem mixL_length (s : List (BitVec 32)) (d : List Int) : (mixL s d).length = d.length := mixTo_length _ _ _
theorem mixTo_byte (s : List (BitVec 32)) {d : List Int} (hd : ∀ x ∈ d, 0 ≤ x ∧ x < 256) (k : Nat) : ∀ n ∈ mixTo s d k, 0 ≤ n ∧ n < 256 := by
  induction k with
  | zero => intro n hn; cases hn
  | succ k ih =>
    intro n hn
    rcases List.mem_append.1 hn with h | h
    · exact ih n h
    · obtain rfl : n = _ := by simpa using h
      exact bx_byte (strAt_byte _ _) (getD_byte hd k)
theorem mixL_byte (s : List (BitVec 32)) {d : List Int} (hd : ∀ x ∈ d, 0 ≤ x ∧ x < 256) : ∀ n ∈ mixL s d, 0 ≤ n ∧ n < 256 := mixTo_byte s hd _
theorem mixTo_at (s : List (BitVec 32)) (d : List Int) (k i : Nat) (hi : i < k) : (mixTo s d k).getD i 0 = bx (strAt s i) (d.getD i 0) := by
  induction k with
  | zero => omega
  | succ k ih =>
    rw [mixTo]
    rcases Nat.lt_or_ge i k with h | h
    · rw [← ih h]
      simp [List.getD, List.getElem?_append_left (show i < (mixTo s d k).length by rw [mixTo_length]; exact h)]
    · obtain rfl : i = k := by omega
      simp [List.getD, mixTo_length]
theorem list_ext {l m : List Int} (hl : l.length = m.length) (h : ∀ i, i < l.length → l.getD i 0 = m.getD i 0) : l = m := by
  refine List.ext_getElem hl fun i h1 h2 => ?_
  have := h i h1
  rwa [getD_at h1, getD_at h2] at this
theorem mix_twice (s : List (BitVec 32)) {d : List Int} (hd : ∀ x ∈ d, 0 ≤ x ∧ x < 256) : mixL s (mixL s d) = d := by
  refine list_ext (by rw [mixL_length, mixL_length]) fun i hi => ?_
  rw [mixL_length, mixL_length] at hi
  rw [mixL, mixTo_at _ _ _ _ (by rw [mixL_length]; exact hi), mixL, mixTo_at _ _ _ _ hi, bx_bx (getD_byte hd i).1]

end Go.Proofs.YtakgfdbjgeopdaaDoor
