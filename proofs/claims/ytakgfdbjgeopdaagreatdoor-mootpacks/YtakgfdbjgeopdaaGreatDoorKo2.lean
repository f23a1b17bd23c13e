/-
  The digest as plain functions of lists. No program is named here.
-/
import Derived.StillTail
import Derived.BigQuiet
import Derived.Deep.QuietTactic
import Derived.BigRegion
import Derived.Test.YtakgfdbjgeopdaaGreatDoorKo1
import Derived.Test.YtakgfdbjgeopdaaGreatDoorProg
namespace Go.Proofs.YtakgfdbjgeopdaaGreatDoor
open Go.RowKit

def zeros (n : Nat) : Nat := (119 - n % 64) % 64
def lenBytes (n : Nat) : List Int := [((n * 8 / 2 ^ 56 % 256 : Nat) : Int), ((n * 8 / 2 ^ 48 % 256 : Nat) : Int), ((n * 8 / 2 ^ 40 % 256 : Nat) : Int), ((n * 8 / 2 ^ 32 % 256 : Nat) : Int),
  ((n * 8 / 2 ^ 24 % 256 : Nat) : Int), ((n * 8 / 2 ^ 16 % 256 : Nat) : Int), ((n * 8 / 2 ^ 8 % 256 : Nat) : Int), ((n * 8 / 2 ^ 0 % 256 : Nat) : Int)]
def padTo (l : List Int) (j : Nat) : List Int := l ++ [128] ++ List.replicate j 0
def pad (l : List Int) : List Int := padTo l (zeros l.length) ++ lenBytes l.length

theorem padTo_length (l : List Int) (j : Nat) : (padTo l j).length = l.length + 1 + j := by simp [padTo]; omega
theorem padTo_succ (l : List Int) (j : Nat) : padTo l j ++ [0] = padTo l (j + 1) := by
  simp only [padTo, List.append_assoc]
  rw [← List.replicate_succ']
theorem lenBytes_length (n : Nat) : (lenBytes n).length = 8 := rfl
theorem pad_length (l : List Int) : (pad l).length % 64 = 0 ∧ l.length < (pad l).length ∧ (pad l).length ≤ l.length + 72 := by
  unfold pad
  rw [List.length_append, padTo_length, lenBytes_length]
  unfold zeros
  omega
theorem padTo_byte {l : List Int} (h : ∀ x ∈ l, 0 ≤ x ∧ x < 256) (j : Nat) : ∀ x ∈ padTo l j, 0 ≤ x ∧ x < 256 := by
  intro x hx
  simp only [padTo, List.mem_append, List.mem_singleton, List.mem_replicate] at hx
  rcases hx with (hx | rfl) | ⟨_, rfl⟩
  · exact h x hx
  · omega
  · omega
theorem lenBytes_byte (n : Nat) : ∀ x ∈ lenBytes n, 0 ≤ x ∧ x < 256 := by
  intro x hx
  simp only [lenBytes, List.mem_cons, List.not_mem_nil, or_false] at hx
  rcases hx with rfl | rfl | rfl | rfl | rfl | rfl | rfl | rfl <;> omega
theorem pad_byte {l : List Int} (h : ∀ x ∈ l, 0 ≤ x ∧ x < 256) : ∀ x ∈ pad l, 0 ≤ x ∧ x < 256 := by
  intro x hx
  rcases List.mem_append.1 hx with h1 | h1
  · exact padTo_byte h _ x h1
  · exact lenBytes_byte _ x h1

theorem lenByte_cast (n s : Nat) : ((n * 8 / 2 ^ s % 256 : Nat) : Int) = (n : Int) * 8 / 2 ^ s % 256 := by
  rw [Int.natCast_emod, Int.natCast_ediv, Int.natCast_mul, Int.natCast_pow]
  rfl
theorem lenBytes_take (n k : Nat) (hk : k < 8) : (lenBytes n).take (k + 1) = (lenBytes n).take k ++ [(n : Int) * 8 / 2 ^ (56 - 8 * k) % 256] := by
  rw [← lenByte_cast]
  obtain rfl | rfl | rfl | rfl | rfl | rfl | rfl | rfl : k = 0 ∨ k = 1 ∨ k = 2 ∨ k = 3 ∨ k = 4 ∨ k = 5 ∨ k = 6 ∨ k = 7 := by omega
  all_goals rfl

/-- the words of a list, as the cells of an array -/
def wArr (ws : List (BitVec 32)) : Array Value := (ws.map fun x => Value.int .u32 (uw x)).toArray
theorem wArr_size (ws : List (BitVec 32)) : (wArr ws).size = ws.length := by simp [wArr]
theorem wArr_get (ws : List (BitVec 32)) (i : Nat) (h : i < ws.length) : (wArr ws)[i]? = some (.int .u32 (uw (ws.getD i 0#32))) := by
  simp [wArr, List.getD, List.getElem?_eq_getElem h]
theorem wArr_set (ws : List (BitVec 32)) (i : Nat) (x : BitVec 32) : (wArr ws).setIfInBounds i (.int .u32 (uw x)) = wArr (ws.set i x) := by
  apply Array.ext'
  simp [wArr, List.map_set]

def byteW (n : Int) : BitVec 32 := BitVec.ofNat 32 n.toNat
def wordOf (l : List Int) (i : Nat) : BitVec 32 := byteW (l.getD (4 * i) 0) <<< 24 ||| byteW (l.getD (4 * i + 1) 0) <<< 16 ||| byteW (l.getD (4 * i + 2) 0) <<< 8 ||| byteW (l.getD (4 * i + 3) 0)
def sig0 (x : BitVec 32) : BitVec 32 := x.rotateRight 7 ^^^ x.rotateRight 18 ^^^ x >>> 3
def sig1 (x : BitVec 32) : BitVec 32 := x.rotateRight 17 ^^^ x.rotateRight 19 ^^^ x >>> 10
def sch0 (l : List Int) : Nat → List (BitVec 32)
  | 0 => List.replicate 64 0#32
  | k + 1 => (sch0 l k).set k (wordOf l k)
def nextW (ws : List (BitVec 32)) (i : Nat) : BitVec 32 := ws.getD (i - 16) 0#32 + sig0 (ws.getD (i - 15) 0#32) + ws.getD (i - 7) 0#32 + sig1 (ws.getD (i - 2) 0#32)
def sch1 (l : List Int) : Nat → List (BitVec 32)
  | 0 => sch0 l 16
  | k + 1 => (sch1 l k).set (16 + k) (nextW (sch1 l k) (16 + k))
def sched (l : List Int) : List (BitVec 32) := sch1 l 48
theorem sch0_length (l : List Int) (k : Nat) : (sch0 l k).length = 64 := by
  induction k with
  | zero => simp [sch0]
  | succ k ih => simp [sch0, ih]
theorem sch1_length (l : List Int) (k : Nat) : (sch1 l k).length = 64 := by
  induction k with
  | zero => exact sch0_length l 16
  | succ k ih => simp [sch1, ih]
theorem sched_length (l : List Int) : (sched l).length = 64 := sch1_length l 48

theorem uw_byte (n : Int) (h : 0 ≤ n ∧ n < 256) : uw (byteW n) = n := by
  unfold uw byteW
  rw [BitVec.toNat_ofNat]
  omega
theorem uw_zero : uw 0#32 = 0 := rfl

def kTab : List Int := [1116352408, 1899447441, 3049323471, 3921009573, 961987163, 1508970993, 2453635748, 2870763221, 3624381080, 310598401, 607225278, 1426881987, 1925078388, 2162078206, 2614888103, 3248222580, 3835390401, 4022224774, 264347078, 604807628, 770255983, 1249150122, 1555081692, 1996064986, 2554220882, 2821834349, 2952996808, 3210313671, 3336571891, 3584528711, 113926993, 338241895, 666307205, 773529912, 1294757372, 1396182291, 1695183700, 1986661051, 2177026350, 2456956037, 2730485921, 2820302411, 3259730800, 3345764771, 3516065817, 3600352804, 4094571909, 275423344, 430227734, 506948616, 659060556, 883997877, 958139571, 1322822218, 1537002063, 1747873779, 1955562222, 2024104815, 2227730452, 2361852424, 2428436474, 2756734187, 3204031479, 3329325298]
def kAt (i : Nat) : BitVec 32 := BitVec.ofNat 32 (kTab.getD i 0).toNat

structure St where
  a : BitVec 32
  b : BitVec 32
  c : BitVec 32
  d : BitVec 32
  e : BitVec 32
  f : BitVec 32
  g : BitVec 32
  h : BitVec 32

def St.cells (s : St) : Array Value := #[.int .u32 (uw s.a), .int .u32 (uw s.b), .int .u32 (uw s.c), .int .u32 (uw s.d), .int .u32 (uw s.e), .int .u32 (uw s.f), .int .u32 (uw s.g), .int .u32 (uw s.h)]

def St.list (s : St) : List (BitVec 32) := [s.a, s.b, s.c, s.d, s.e, s.f, s.g, s.h]
theorem St.cells_eq (s : St) : s.cells = wArr s.list := rfl

def choice (e f g : BitVec 32) : BitVec 32 := (e &&& f) ^^^ (~~~e &&& g)
def most (a b c : BitVec 32) : BitVec 32 := (a &&& b) ^^^ (a &&& c) ^^^ (b &&& c)
def big1 (e : BitVec 32) : BitVec 32 := e.rotateRight 6 ^^^ e.rotateRight 11 ^^^ e.rotateRight 25
def big0 (a : BitVec 32) : BitVec 32 := a.rotateRight 2 ^^^ a.rotateRight 13 ^^^ a.rotateRight 22
def upS (s : St) (k w : BitVec 32) : BitVec 32 := s.h + big1 s.e + choice s.e s.f s.g + k + w
def downS (s : St) : BitVec 32 := big0 s.a + most s.a s.b s.c
def stepS (s : St) (k w : BitVec 32) : St := { a := upS s k w + downS s, b := s.a, c := s.b, d := s.c, e := s.d + upS s k w, f := s.e, g := s.f, h := s.g }
def roundsS (ws : List (BitVec 32)) (s : St) : Nat → St
  | 0 => s
  | k + 1 => stepS (roundsS ws s k) (kAt k) (ws.getD k 0#32)
def addS (s t : St) : St := { a := s.a + t.a, b := s.b + t.b, c := s.c + t.c, d := s.d + t.d, e := s.e + t.e, f := s.f + t.f, g := s.g + t.g, h := s.h + t.h }
/-- the first i words have been added -/
def addTo (s t : St) : Nat → List (BitVec 32)
  | 0 => s.list
  | i + 1 => (addTo s t i).set i ((addTo s t i).getD i 0#32 + t.list.getD i 0#32)
theorem addTo_length (s t : St) (i : Nat) : (addTo s t i).length = 8 := by
  induction i with
  | zero => rfl
  | succ i ih => simp [addTo, ih]
theorem addTo_all (s t : St) : addTo s t 8 = (addS s t).list := rfl
def mixS (s : St) (ws : List (BitVec 32)) : St := addS s (roundsS ws s 64)
def start : St := { a := 1779033703#32, b := 3144134277#32, c := 1013904242#32, d := 2773480762#32, e := 1359893119#32, f := 2600822924#32, g := 528734635#32, h := 1541459225#32 }

/-- a word as four bytes, the highest one first -/
def bytesW (x : BitVec 32) : List Int := [uw x / 16777216 % 256, uw x / 65536 % 256, uw x / 256 % 256, uw x % 256]
def bytesL : List (BitVec 32) → List Int
  | [] => []
  | x :: r => bytesW x ++ bytesL r
def bytesS (s : St) : List Int := bytesL s.list
theorem bytesS_length (s : St) : (bytesS s).length = 32 := rfl
theorem bytesW_byte (x : BitVec 32) : ∀ n ∈ bytesW x, 0 ≤ n ∧ n < 256 := by
  intro n hn
  simp only [bytesW, List.mem_cons, List.not_mem_nil, or_false] at hn
  rcases hn with rfl | rfl | rfl | rfl <;> omega
theorem bytesL_byte (l : List (BitVec 32)) : ∀ n ∈ bytesL l, 0 ≤ n ∧ n < 256 := by
  induction l with
  | nil => intro n hn; cases hn
  | cons x r ih =>
    intro n hn
    rcases List.mem_append.1 hn with h | h
    · exact bytesW_byte x n h
    · exact ih n h
theorem bytesL_snoc (l : List (BitVec 32)) (x : BitVec 32) : bytesL (l ++ [x]) = bytesL l ++ bytesW x := by
  induction l with
  | nil => simp [bytesL]
  | cons y r ih => simp [bytesL, ih]
theorem bytesL_length (l : List (BitVec 32)) : (bytesL l).length = 4 * l.length := by
  induction l with
  | nil => rfl
  | cons x r ih => simp [bytesL, bytesW, ih]; omega

/-- the digest's words behind the first k blocks of l -/
def digS (l : List Int) : Nat → St
  | 0 => start
  | k + 1 => mixS (digS l k) (sched ((l.drop (64 * k)).take 64))
/-- the digest -/
def dig (l : List Int) : List Int := bytesS (digS (pad l) ((pad l).length / 64))
theorem dig_length (l : List Int) : (dig l).length = 32 := rfl
theorem dig_byte (l : List Int) : ∀ n ∈ dig l, 0 ≤ n ∧ n < 256 := bytesL_byte _

end Go.Proofs.YtakgfdbjgeopdaaGreatDoor
/-
  The stream as plain functions of lists. No program is named here.
-/
namespace Go.Proofs.YtakgfdbjgeopdaaGreatDoor
open Go.RowKit

def gro1 (s : List (BitVec 32)) (a b : Nat) : List (BitVec 32) := s.set a (s.getD a 0#32 + s.getD b 0#32)
def gro2 (s : List (BitVec 32)) (a t n : Nat) : List (BitVec 32) := s.set t ((s.getD t 0#32 ^^^ s.getD a 0#32).rotateLeft n)
def growL (s : List (BitVec 32)) (a b t n : Nat) : List (BitVec 32) := gro2 (gro1 s a b) a t n
def quartL (s : List (BitVec 32)) (a b c d : Nat) : List (BitVec 32) := growL (growL (growL (growL s a b d 16) c d b 12) a b d 8) c d b 7
theorem gro1_length (s : List (BitVec 32)) (a b : Nat) : (gro1 s a b).length = s.length := by simp [gro1]
theorem gro2_length (s : List (BitVec 32)) (a t n : Nat) : (gro2 s a t n).length = s.length := by simp [gro2]
theorem growL_length (s : List (BitVec 32)) (a b t n : Nat) : (growL s a b t n).length = s.length := by rw [growL, gro2_length, gro1_length]
theorem quartL_length (s : List (BitVec 32)) (a b c d : Nat) : (quartL s a b c d).length = s.length := by simp only [quartL, growL_length]

/-- where the quarters of a turn stand -/
def qTab : List Nat := [0, 4, 8, 12, 1, 5, 9, 13, 2, 6, 10, 14, 3, 7, 11, 15, 0, 5, 10, 15, 1, 6, 11, 12, 2, 7, 8, 13, 3, 4, 9, 14]
/-- the first k quarters of a turn -/
def turnL (s : List (BitVec 32)) : Nat → List (BitVec 32)
  | 0 => s
  | k + 1 => quartL (turnL s k) (qTab.getD (4 * k) 0) (qTab.getD (4 * k + 1) 0) (qTab.getD (4 * k + 2) 0) (qTab.getD (4 * k + 3) 0)
def turnsL (s : List (BitVec 32)) : Nat → List (BitVec 32)
  | 0 => s
  | k + 1 => turnL (turnsL s k) 8
theorem turnL_length (s : List (BitVec 32)) (k : Nat) : (turnL s k).length = s.length := by
  induction k with
  | zero => rfl
  | succ k ih => rw [turnL, quartL_length, ih]
theorem turnsL_length (s : List (BitVec 32)) (k : Nat) : (turnsL s k).length = s.length := by
  induction k with
  | zero => rfl
  | succ k ih => rw [turnsL, turnL_length, ih]
theorem qTab_lt (i : Nat) : qTab.getD i 0 < 16 := by
  have all : ∀ j : Fin 32, qTab.getD j.val 0 < 16 := by decide
  rcases Nat.lt_or_ge i 32 with h | h
  · exact all ⟨i, h⟩
  · rw [List.getD, List.getElem?_eq_none (by simpa [qTab] using h)]; decide

/-- a word as four bytes, the lowest one first -/
def bytesU (x : BitVec 32) : List Int := [uw x % 256, uw x / 256 % 256, uw x / 65536 % 256, uw x / 16777216 % 256]
/-- the sum of two states -/
def addW (s t : List (BitVec 32)) (i : Nat) : BitVec 32 := s.getD i 0#32 + t.getD i 0#32
/-- the first k words, written -/
def outL (s t : List (BitVec 32)) : Nat → List Int
  | 0 => []
  | k + 1 => outL s t k ++ bytesU (addW s t k)
theorem outL_length (s t : List (BitVec 32)) (k : Nat) : (outL s t k).length = 4 * k := by
  induction k with
  | zero => rfl
  | succ k ih => simp [outL, bytesU, ih]; omega
theorem bytesU_byte (x : BitVec 32) : ∀ n ∈ bytesU x, 0 ≤ n ∧ n < 256 := by
  intro n hn
  simp only [bytesU, List.mem_cons, List.not_mem_nil, or_false] at hn
  rcases hn with rfl | rfl | rfl | rfl <;> omega
theorem outL_byte (s t : List (BitVec 32)) (k : Nat) : ∀ n ∈ outL s t k, 0 ≤ n ∧ n < 256 := by
  induction k with
  | zero => intro n hn; cases hn
  | succ k ih =>
    intro n hn
    rcases List.mem_append.1 hn with h | h
    · exact ih n h
    · exact bytesU_byte _ n h
/-- a block of a state -/
def blockL (s : List (BitVec 32)) : List Int := outL (turnsL s 10) s 16
theorem blockL_length (s : List (BitVec 32)) : (blockL s).length = 64 := outL_length _ _ _
theorem blockL_byte (s : List (BitVec 32)) : ∀ n ∈ blockL s, 0 ≤ n ∧ n < 256 := outL_byte _ _ _

/-- a word of four bytes, the lowest one first -/
def wordU (l : List Int) (i : Nat) : BitVec 32 := byteW (l.getD (4 * i) 0) ||| byteW (l.getD (4 * i + 1) 0) <<< 8 ||| byteW (l.getD (4 * i + 2) 0) <<< 16 ||| byteW (l.getD (4 * i + 3) 0) <<< 24
/-- the first k words of l, from place off on -/
def readL (s : List (BitVec 32)) (off : Nat) (l : List Int) : Nat → List (BitVec 32)
  | 0 => s
  | k + 1 => (readL s off l k).set (off + k) (wordU l k)
theorem readL_length (s : List (BitVec 32)) (off : Nat) (l : List Int) (k : Nat) : (readL s off l k).length = s.length := by
  induction k with
  | zero => rfl
  | succ k ih => simp [readL, ih]
def sigmaL : List (BitVec 32) := [1634760805#32, 857760878#32, 2036477234#32, 1797285236#32, 0#32, 0#32, 0#32, 0#32, 0#32, 0#32, 0#32, 0#32, 0#32, 0#32, 0#32, 0#32]
def begunL (key : List Int) (c : BitVec 32) (nonce : List Int) : List (BitVec 32) := readL ((readL sigmaL 4 key 8).set 12 c) 13 nonce 3
theorem begunL_length (key : List Int) (c : BitVec 32) (nonce : List Int) : (begunL key c nonce).length = 16 := by
  simp [begunL, readL_length, sigmaL]
theorem begunL_list (key : List Int) (c : BitVec 32) (nonce : List Int) : begunL key c nonce = [1634760805#32, 857760878#32, 2036477234#32, 1797285236#32, wordU key 0, wordU key 1, wordU key 2, wordU key 3, wordU key 4, wordU key 5, wordU key 6, wordU key 7, c, wordU nonce 0, wordU nonce 1, wordU nonce 2] := rfl
theorem begunL_counter (key : List Int) (c d : BitVec 32) (nonce : List Int) : (begunL key c nonce).set 12 d = begunL key d nonce := rfl
theorem begunL_at (key : List Int) (c : BitVec 32) (nonce : List Int) : (begunL key c nonce).getD 12 0#32 = c := rfl

/-- exclusive or of bytes -/
def bx (x y : Int) : Int := ((x.toNat ^^^ y.toNat : Nat) : Int)
theorem bx_byte {x y : Int} (hx : 0 ≤ x ∧ x < 256) (hy : 0 ≤ y ∧ y < 256) : 0 ≤ bx x y ∧ bx x y < 256 := by
  unfold bx
  have : x.toNat ^^^ y.toNat < 2 ^ 8 := Nat.xor_lt_two_pow (by omega) (by omega)
  omega
theorem bx_bx {x y : Int} (hy : 0 ≤ y) : bx x (bx x y) = y := by
  unfold bx
  rw [Int.toNat_natCast, ← Nat.xor_assoc, Nat.xor_self, Nat.zero_xor]
  omega
theorem bx_zero {x : Int} (hx : 0 ≤ x) : bx x 0 = x := by
  unfold bx
  rw [Int.toNat_zero, Nat.xor_zero]
  omega

/-- the byte of the stream of a state at a place -/
def strAt (s : List (BitVec 32)) (i : Nat) : Int := (blockL (s.set 12 (s.getD 12 0#32 + BitVec.ofNat 32 (i / 64)))).getD (i % 64) 0
theorem strAt_byte (s : List (BitVec 32)) (i : Nat) : 0 ≤ strAt s i ∧ strAt s i < 256 := getD_byte (blockL_byte _) _
/-- the first k bytes of d, mixed with the stream -/
def mixTo (s : List (BitVec 32)) (d : List Int) : Nat → List Int
  | 0 => []
  | k + 1 => mixTo s d k ++ [bx (strAt s k) (d.getD k 0)]
def mixL (s : List (BitVec 32)) (d : List Int) : List Int := mixTo s d d.length
theorem mixTo_length (s : List (BitVec 32)) (d : List Int) (k : Nat) : (mixTo s d k).length = k := by
  induction k with
  | zero => rfl
  | succ k ih => simp [mixTo, ih]
theorem mixL_length (s : List (BitVec 32)) (d : List Int) : (mixL s d).length = d.length := mixTo_length _ _ _
theorem mixTo_byte (s : List (BitVec 32)) {d : List Int} (hd : ∀ x ∈ d, 0 ≤ x ∧ x < 256) (k : Nat) : ∀ n ∈ mixTo s d k, 0 ≤ n ∧ n < 256 := by
  induction k with
  | zero => intro n hn; cases hn
  | succ k ih =>
    intro n hn
    rcases List.mem_append.1 hn with h | h
    · exact ih n h
    · obtain rfl : n = _ := by simpa using h
      exact bx_byte (strAt_byte _ _) (getD_byte hd k)
theorem mixL_byte (s : List (BitVec 32)) {d : List Int} (hd : ∀ x ∈ d, 0 ≤ x ∧ x < 256) : ∀ n ∈ mixL s d, 0 ≤ n ∧ n < 256 := mixTo_byte s hd _
theorem mixTo_at (s : List (BitVec 32)) (d : List Int) (k i : Nat) (hi : i < k) : (mixTo s d k).getD i 0 = bx (strAt s i) (d.getD i 0) := by
  induction k with
  | zero => omega
  | succ k ih =>
    rw [mixTo]
    rcases Nat.lt_or_ge i k with h | h
    · rw [← ih h]
      simp [List.getD, List.getElem?_append_left (show i < (mixTo s d k).length by rw [mixTo_length]; exact h)]
    · obtain rfl : i = k := by omega
      simp [List.getD, mixTo_length]
theorem list_ext {l m : List Int} (hl : l.length = m.length) (h : ∀ i, i < l.length → l.getD i 0 = m.getD i 0) : l = m := by
  refine List.ext_getElem hl fun i h1 h2 => ?_
  have := h i h1
  rwa [getD_at h1, getD_at h2] at this
theorem mix_twice (s : List (BitVec 32)) {d : List Int} (hd : ∀ x ∈ d, 0 ≤ x ∧ x < 256) : mixL s (mixL s d) = d := by
  refine list_ext (by rw [mixL_length, mixL_length]) fun i hi => ?_
  rw [mixL_length, mixL_length] at hi
  rw [mixL, mixTo_at _ _ _ _ (by rw [mixL_length]; exact hi), mixL, mixTo_at _ _ _ _ hi, bx_bx (getD_byte hd i).1]

end Go.Proofs.YtakgfdbjgeopdaaGreatDoor
/-
  A region that draws its order, whose operations read but for a tail of one store: one walk, in the order of the text. No program is named here.
-/
namespace Go.Proofs.YtakgfdbjgeopdaaGreatDoor
open Go.RowKit

theorem still_of_quiet {P : Program} {ops : Array Oper} {w : World} {Q : Act → Prop} : ∀ (l : List Oper) (a : Act), wpQuiet P ops (fun w' => w' = w) Q l a → wpStill P ops w Q l a
  | [], _, h => h
  | o :: rest, a, h => by
    unfold wpQuiet at h
    unfold wpStill
    split
    · rename_i hw
      rw [if_pos hw] at h
      obtain ⟨v, h1, h2⟩ := h
      have h3 := h1 w rfl
      unfold Oper.quietAt at h3
      unfold Oper.still
      generalize (execOp a.eval o).run P w = r at h3 ⊢
      cases r with
      | ok n w' =>
        cases n <;> simp only [Oper.quietUpon] at h3 <;> simp only [Oper.stillUpon]
        case value u =>
          obtain ⟨e1, e2⟩ := h3
          rw [e2]
          exact ⟨e1, still_of_quiet rest _ h2⟩
        case skip =>
          obtain ⟨e1, e2⟩ := h3
          rw [← e2]
          exact ⟨e1, still_of_quiet rest _ h2⟩
        case enter f args => exact ⟨h3.1, v, h3.2, still_of_quiet rest _ h2⟩
      | halt x w' => simp only [Oper.quietUpon] at h3
    · rename_i hw
      rw [if_neg hw] at h
      exact still_of_quiet rest _ h

theorem wp_region_quiet_tail {P : Program} {id : Nat} {Q : Exit → Act → World → Prop} {a : Act} {w : World} {l : List Oper} (n : Nat) (hm : P.follows .mixedOrders = true) (hB : Region.lexTailB .any l.toArray n = true)
    (h : wpQuiet P l.toArray (fun w' => w' = w.drew) (fun a' => wpList P l.toArray Q (l.drop n) a' w.drew) (l.take n) a) : (Code.region id l.toArray true).wp P Q a w :=
  wp_region_still_tail n hm hB (still_of_quiet _ _ h)

end Go.Proofs.YtakgfdbjgeopdaaGreatDoor
/-
  The walks of a quarter.
-/
namespace Go.Proofs.YtakgfdbjgeopdaaGreatDoor
open Go.RowKit

theorem ret_u32' {a b : Int} (h : a = b) : Ending.returned (.int .u32 a) = .returned (.int .u32 b) := by rw [h]

theorem and31p (n : Nat) (h1 : n ≤ 31) : bits .and .u64 (n : Int) 31 = (n : Int) := by
  rw [show (31 : Int) = ((31 : Nat) : Int) from rfl, u64_and_nat _ _ (by omega) (by omega), nat_mask5]
  omega

theorem uw_rotl (x : BitVec 32) (n : Nat) (h0 : 1 ≤ n) (h1 : n ≤ 31) : bits .or .u32 (uw x * 2 ^ n % 4294967296) (uw x / 2 ^ (32 - n)) = uw (x.rotateLeft n) := by
  rw [uw_shl, uw_shr, uw_or, uw_inj]
  rw [BitVec.rotateLeft_def, Nat.mod_eq_of_lt (by omega : n < 32)]

theorem rotl_pos (x : BitVec 32) (n : Nat) (w : World) (h0 : 1 ≤ n) (h1 : n ≤ 31) :
    Calls Tryz.prog 242 #[.int .u32 (uw x), .int .i64 (n : Int)] w fun e w' => e = .returned (.int .u32 (uw (x.rotateLeft n))) ∧ w' = w := by
  have a1 := uw_lo x
  have a2 := uw_hi x
  have a3 := and31p n h1
  go_enter Tryz.func242, Tryz.ntmps242
  go_wp2
  go_ret
  exact ⟨ret_u32' (uw_rotl x n h0 h1), rfl⟩

theorem rotl_at (v : Int) (x : BitVec 32) (hv : v = uw x) (n : Nat) (w : World) (h0 : 1 ≤ n) (h1 : n ≤ 31) :
    Calls Tryz.prog 242 #[.int .u32 v, .int .i64 (n : Int)] w fun e w' => e = .returned (.int .u32 (uw (x.rotateLeft n))) ∧ w' = w := by
  subst hv
  exact rotl_pos x n w h0 h1

theorem st_store {w : World} {g : Nat} {ws : List (BitVec 32)} (h : w.heap[g]? = some (.cells (wArr ws) 233 (0, 0))) (k : Nat) (x : BitVec 32) :
    (w.setCell ⟨g, k, none⟩ (.int .u32 (uw x))).heap[g]? = some (.cells (wArr (ws.set k x)) 233 (0, 0)) := by
  rw [heap_setCell_same _ _ _ _ _ _ h, wArr_set]

set_option maxHeartbeats 1000000 in
set_option maxRecDepth 100000 in
theorem grow_any (g : Nat) (ws : List (BitVec 32)) (w : World) (hw : w.heap[g]? = some (.cells (wArr ws) 233 (0, 0))) (hl : ws.length = 16) (a b t n : Nat) (ha : a < 16) (hb : b < 16) (ht : t < 16) (h0 : 1 ≤ n) (h1 : n ≤ 31) :
    Calls Tryz.prog 254 #[.pointer (some ⟨g, 0, none⟩), .int .i64 a, .int .i64 b, .int .i64 t, .int .i64 n] w fun e w' => e = .returned (.tuple #[]) ∧ w'.heap[g]? = some (.cells (wArr (growL ws a b t n)) 233 (0, 0)) ∧ Below g w w' := by
  have ca := (cell_of_row w _ a _ _ _ hw).trans (wArr_get ws a (by omega))
  have cb := (cell_of_row w _ b _ _ _ hw).trans (wArr_get ws b (by omega))
  have fa := frozen_of_row w _ a _ _ hw
  have HA : Hid (gro1 ws a b = ws.set a (ws.getD a 0#32 + ws.getD b 0#32)) := rfl
  have HW : Hid _ := hw
  have HL : Hid (ws.length = 16) := hl
  clear hw hl
  generalize ws.getD a 0#32 = x at ca HA
  generalize ws.getD b 0#32 = y at cb HA
  go_enter Tryz.func254, Tryz.ntmps254
  go_wp2_with fail
  refine wp_region_quiet_tail 13 (by kernel_rfl) (by kernel_rfl) ?_
  simp only [List.take_succ_cons, List.take_zero, List.drop_succ_cons, List.drop_zero]
  repeat (go_big_quiet_step (fail))
  refine wpQuiet_nil ?_
  go_wp2_with fail
  rw [uw_sum2]
  generalize hW1 : (w.setCell _ _).drew = W1
  have r1 : W1.heap[g]? = some (.cells (wArr (gro1 ws a b)) 233 (0, 0)) := by rw [← hW1, HA.out]; exact st_store HW.out a _
  have b1 : Below g w W1 := by rw [← hW1]; exact ((Below.refl g w).setCell (p := ⟨g, a, none⟩) (Nat.le_refl _) _).drew
  have hl1 : (gro1 ws a b).length = 16 := by rw [gro1_length]; exact HL.out
  have H2 : Hid (growL ws a b t n = (gro1 ws a b).set t (((gro1 ws a b).getD t 0#32 ^^^ (gro1 ws a b).getD a 0#32).rotateLeft n)) := rfl
  clear hW1 HA HW HL ca cb fa
  generalize gro1 ws a b = vs at r1 hl1 H2
  have ca := (cell_of_row W1 _ a _ _ _ r1).trans (wArr_get vs a (by omega))
  have ct := (cell_of_row W1 _ t _ _ _ r1).trans (wArr_get vs t (by omega))
  have ft := frozen_of_row W1 _ t _ _ r1
  generalize vs.getD a 0#32 = x2 at ca H2
  generalize vs.getD t 0#32 = y2 at ct H2
  have HR : Hid _ := r1
  clear r1 hl1
  refine wp_region_quiet_tail 17 (by kernel_rfl) (by kernel_rfl) ?_
  simp only [List.take_succ_cons, List.take_zero, List.drop_succ_cons, List.drop_zero]
  repeat (go_big_quiet_step (fail))
  go_big_quiet_want
  go_big_quiet_op
  refine ⟨_, rotl_at _ (y2 ^^^ x2) (uw_xor y2 x2) n _ h0 h1, ?_⟩
  go_big_quiet_on
  repeat (go_big_quiet_step (fail))
  refine wpQuiet_nil ?_
  go_wp2
  go_end0
  refine ⟨rfl, ?_, b1.trans (((Below.refl g W1).setCell (p := ⟨g, t, none⟩) (Nat.le_refl _) _).drew)⟩
  rw [H2.out]
  exact st_store (w := W1.drew) HR.out t _

set_option maxHeartbeats 1000000 in
theorem quarter_any (g : Nat) (ws : List (BitVec 32)) (w : World) (hw : w.heap[g]? = some (.cells (wArr ws) 233 (0, 0))) (hl : ws.length = 16) (a b c d : Nat) (ha : a < 16) (hb : b < 16) (hc : c < 16) (hd : d < 16) :
    Calls Tryz.prog 243 #[.pointer (some ⟨g, 0, none⟩), .int .i64 a, .int .i64 b, .int .i64 c, .int .i64 d] w fun e w' => e = .returned (.tuple #[]) ∧ w'.heap[g]? = some (.cells (wArr (quartL ws a b c d)) 233 (0, 0)) ∧ Below g w w' := by
  go_enter Tryz.func243, Tryz.ntmps243
  go_wp2_with fail
  refine (grow_any g ws w hw hl a b d 16 ha hb hd (by omega) (by omega)).mono ?_
  rintro e w1 ⟨rfl, r1, b1⟩
  go_wp2_with fail
  refine (grow_any g _ w1 r1 (by rw [growL_length]; exact hl) c d b 12 hc hd hb (by omega) (by omega)).mono ?_
  rintro e w2 ⟨rfl, r2, b2⟩
  go_wp2_with fail
  refine (grow_any g _ w2 r2 (by rw [growL_length, growL_length]; exact hl) a b d 8 ha hb hd (by omega) (by omega)).mono ?_
  rintro e w3 ⟨rfl, r3, b3⟩
  go_wp2_with fail
  refine (grow_any g _ w3 r3 (by rw [growL_length, growL_length, growL_length]; exact hl) c d b 7 hc hd hb (by omega) (by omega)).mono ?_
  rintro e w4 ⟨rfl, r4, b4⟩
  go_wp2
  go_end0
  exact ⟨rfl, r4, ((b1.trans b2).trans b3).trans b4⟩
end Go.Proofs.YtakgfdbjgeopdaaGreatDoor
/-
  The row of the table for bytes.
-/
namespace Go.Proofs.YtakgfdbjgeopdaaGreatDoor
theorem info5 : (Tryz.prog.info? 5).map (fun i => (i.zero, i.size, i.bytes)) = some (some (.int .u8 0), 1, 1) := by kernel_rfl
end Go.Proofs.YtakgfdbjgeopdaaGreatDoor
