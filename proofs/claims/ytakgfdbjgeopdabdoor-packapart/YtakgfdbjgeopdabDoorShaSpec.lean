/-
  The digest as plain functions of lists. No program is named here.
-/
import Derived.Test.YtakgfdbjgeopdabDoorWords
namespace Go.Proofs.YtakgfdbjgeopdabDoor
open Go.RowKit

def zeros (n : Nat) : Nat := (119 - n % 64) % 64
def lenBytes (n : Nat) : List Int := [((n * 8 / 2 ^ 56 % 256 : Nat) : Int), ((n * 8 / 2 ^ 48 % 256 : Nat) : Int), ((n * 8 / 2 ^ 40 % 256 : Nat) : Int), ((n * 8 / 2 ^ 32 % 256 : Nat) : Int),
  ((n * 8 / 2 ^ 24 % 256 : Nat) : Int), ((n * 8 / 2 ^ 16 % 256 : Nat) : Int), ((n * 8 / 2 ^ 8 % 256 : Nat) : Int), ((n * 8 / 2 ^ 0 % 256 : Nat) : Int)]
def padTo (l : List Int) (j : Nat) : List Int := l ++ [128] ++ List.replicate j 0
def pad (l : List Int) : List Int := padTo l (zeros l.length) ++ lenBytes l.length

theorem padTo_length (l : List Int) (j : Nat) : (padTo l j).length = l.length + 1 + j := by simp [padTo]; omega
theorem padTo_succ (l : List Int) (j : Nat) : padTo l j ++ [0] = padTo l (j + 1) := by
  simp only [padTo, List.append_assoc]
  rw [← List.replicate_succ']
theorem lenBytes_length (n : Nat) : (lenBytes n).length = 8 := rfl
theorem pad_length (l : List Int) : (pad l).length % 64 = 0 ∧ l.length < (pad l).length ∧ (pad l).length ≤ l.length + 72 := by
  unfold pad
  rw [List.length_append, padTo_length, lenBytes_length]
  unfold zeros
  omega
theorem padTo_byte {l : List Int} (h : ∀ x ∈ l, 0 ≤ x ∧ x < 256) (j : Nat) : ∀ x ∈ padTo l j, 0 ≤ x ∧ x < 256 := by
  intro x hx
  simp only [padTo, List.mem_append, List.mem_singleton, List.mem_replicate] at hx
  rcases hx with (hx | rfl) | ⟨_, rfl⟩
  · exact h x hx
  · omega
  · omega
theorem lenBytes_byte (n : Nat) : ∀ x ∈ lenBytes n, 0 ≤ x ∧ x < 256 := by
  intro x hx
  simp only [lenBytes, List.mem_cons, List.not_mem_nil, or_false] at hx
  rcases hx with rfl | rfl | rfl | rfl | rfl | rfl | rfl | rfl <;> omega
theorem pad_byte {l : List Int} (h : ∀ x ∈ l, 0 ≤ x ∧ x < 256) : ∀ x ∈ pad l, 0 ≤ x ∧ x < 256 := by
  intro x hx
  rcases List.mem_append.1 hx with h1 | h1
  · exact padTo_byte h _ x h1
  · exact lenBytes_byte _ x h1

theorem lenByte_cast (n s : Nat) : ((n * 8 / 2 ^ s % 256 : Nat) : Int) = (n : Int) * 8 / 2 ^ s % 256 := by
  rw [Int.natCast_emod, Int.natCast_ediv, Int.natCast_mul, Int.natCast_pow]
  rfl
theorem lenBytes_take (n k : Nat) (hk : k < 8) : (lenBytes n).take (k + 1) = (lenBytes n).take k ++ [(n : Int) * 8 / 2 ^ (56 - 8 * k) % 256] := by
  rw [← lenByte_cast]
  obtain rfl | rfl | rfl | rfl | rfl | rfl | rfl | rfl : k = 0 ∨ k = 1 ∨ k = 2 ∨ k = 3 ∨ k = 4 ∨ k = 5 ∨ k = 6 ∨ k = 7 := by omega
  all_goals rfl

/-- the words of a list, as the cells of an array -/
def wArr (ws : List (BitVec 32)) : Array Value := (ws.map fun x => Value.int .u32 (uw x)).toArray
theorem wArr_size (ws : List (BitVec 32)) : (wArr ws).size = ws.length := by simp [wArr]
theorem wArr_get (ws : List (BitVec 32)) (i : Nat) (h : i < ws.length) : (wArr ws)[i]? = some (.int .u32 (uw (ws.getD i 0#32))) := by
  simp [wArr, List.getD, List.getElem?_eq_getElem h]
theorem wArr_set (ws : List (BitVec 32)) (i : Nat) (x : BitVec 32) : (wArr ws).setIfInBounds i (.int .u32 (uw x)) = wArr (ws.set i x) := by
  apply Array.ext'
  simp [wArr, List.map_set]

def byteW (n : Int) : BitVec 32 := BitVec.ofNat 32 n.toNat
def wordOf (l : List Int) (i : Nat) : BitVec 32 := byteW (l.getD (4 * i) 0) <<< 24 ||| byteW (l.getD (4 * i + 1) 0) <<< 16 ||| byteW (l.getD (4 * i + 2) 0) <<< 8 ||| byteW (l.getD (4 * i + 3) 0)
def sig0 (x : BitVec 32) : BitVec 32 := x.rotateRight 7 ^^^ x.rotateRight 18 ^^^ x >>> 3
def sig1 (x : BitVec 32) : BitVec 32 := x.rotateRight 17 ^^^ x.rotateRight 19 ^^^ x >>> 10
def sch0 (l : List Int) : Nat → List (BitVec 32)
  | 0 => List.replicate 64 0#32
  | k + 1 => (sch0 l k).set k (wordOf l k)
def nextW (ws : List (BitVec 32)) (i : Nat) : BitVec 32 := ws.getD (i - 16) 0#32 + sig0 (ws.getD (i - 15) 0#32) + ws.getD (i - 7) 0#32 + sig1 (ws.getD (i - 2) 0#32)
def sch1 (l : List Int) : Nat → List (BitVec 32)
  | 0 => sch0 l 16
  | k + 1 => (sch1 l k).set (16 + k) (nextW (sch1 l k) (16 + k))
def sched (l : List Int) : List (BitVec 32) := sch1 l 48
theorem sch0_length (l : List Int) (k : Nat) : (sch0 l k).length = 64 := by
  induction k with
  | zero => simp [sch0]
  | succ k ih => simp [sch0, ih]
theorem sch1_length (l : List Int) (k : Nat) : (sch1 l k).length = 64 := by
  induction k with
  | zero => exact sch0_length l 16
  | succ k ih => simp [sch1, ih]
theorem sched_length (l : List Int) : (sched l).length = 64 := sch1_length l 48

theorem uw_byte (n : Int) (h : 0 ≤ n ∧ n < 256) : uw (byteW n) = n := by
  unfold uw byteW
  rw [BitVec.toNat_ofNat]
  omega
theorem uw_zero : uw 0#32 = 0 := rfl

def kTab : List Int := [1116352408, 1899447441, 3049323471, 3921009573, 961987163, 1508970993, 2453635748, 2870763221, 3624381080, 310598401, 607225278, 1426881987, 1925078388, 2162078206, 2614888103, 3248222580, 3835390401, 4022224774, 264347078, 604807628, 770255983, 1249150122, 1555081692, 1996064986, 2554220882, 2821834349, 2952996808, 3210313671, 3336571891, 3584528711, 113926993, 338241895, 666307205, 773529912, 1294757372, 1396182291, 1695183700, 1986661051, 2177026350, 2456956037, 2730485921, 2820302411, 3259730800, 3345764771, 3516065817, 3600352804, 4094571909, 275423344, 430227734, 506948616, 659060556, 883997877, 958139571, 1322822218, 1537002063, 1747873779, 1955562222, 2024104815, 2227730452, 2361852424, 2428436474, 2756734187, 3204031479, 3329325298]
def kAt (i : Nat) : BitVec 32 := BitVec.ofNat 32 (kTab.getD i 0).toNat

structure St where
  a : BitVec 32
  b : BitVec 32
  c : BitVec 32
  d : BitVec 32
  e : BitVec 32
  f : BitVec 32
  g : BitVec 32
  h : BitVec 32

def St.cells (s : St) : Array Value := #[.int .u32 (uw s.a), .int .u32 (uw s.b), .int .u32 (uw s.c), .int .u32 (uw s.d), .int .u32 (uw s.e), .int .u32 (uw s.f), .int .u32 (uw s.g), .int .u32 (uw s.h)]

def St.list (s : St) : List (BitVec 32) := [s.a, s.b, s.c, s.d, s.e, s.f, s.g, s.h]
theorem St.cells_eq (s : St) : s.cells = wArr s.list := rfl

def choice (e f g : BitVec 32) : BitVec 32 := (e &&& f) ^^^ (~~~e &&& g)
def most (a b c : BitVec 32) : BitVec 32 := (a &&& b) ^^^ (a &&& c) ^^^ (b &&& c)
def big1 (e : BitVec 32) : BitVec 32 := e.rotateRight 6 ^^^ e.rotateRight 11 ^^^ e.rotateRight 25
def big0 (a : BitVec 32) : BitVec 32 := a.rotateRight 2 ^^^ a.rotateRight 13 ^^^ a.rotateRight 22
def upS (s : St) (k w : BitVec 32) : BitVec 32 := s.h + big1 s.e + choice s.e s.f s.g + k + w
def downS (s : St) : BitVec 32 := big0 s.a + most s.a s.b s.c
def stepS (s : St) (k w : BitVec 32) : St := { a := upS s k w + downS s, b := s.a, c := s.b, d := s.c, e := s.d + upS s k w, f := s.e, g := s.f, h := s.g }
def roundsS (ws : List (BitVec 32)) (s : St) : Nat → St
  | 0 => s
  | k + 1 => stepS (roundsS ws s k) (kAt k) (ws.getD k 0#32)
def addS (s t : St) : St := { a := s.a + t.a, b := s.b + t.b, c := s.c + t.c, d := s.d + t.d, e := s.e + t.e, f := s.f + t.f, g := s.g + t.g, h := s.h + t.h }
/-- the first i words have been added -/
def addTo (s t : St) : Nat → List (BitVec 32)
  | 0 => s.list
  | i + 1 => (addTo s t i).set i ((addTo s t i).getD i 0#32 + t.list.getD i 0#32)
theorem addTo_length (s t : St) (i : Nat) : (addTo s t i).length = 8 := by
  induction i with
  | zero => rfl
  | succ i ih => simp [addTo, ih]
theorem addTo_all (s t : St) : addTo s t 8 = (addS s t).list := rfl
def mixS (s : St) (ws : List (BitVec 32)) : St := addS s (roundsS ws s 64)
def start : St := { a := 1779033703#32, b := 3144134277#32, c := 1013904242#32, d := 2773480762#32, e := 1359893119#32, f := 2600822924#32, g := 528734635#32, h := 1541459225#32 }

/-- a word as four bytes, the highest one first -/
def bytesW (x : BitVec 32) : List Int := [uw x / 16777216 % 256, uw x / 65536 % 256, uw x / 256 % 256, uw x % 256]
def bytesL : List (BitVec 32) → List Int
  | [] => []
  | x :: r => bytesW x ++ bytesL r
def bytesS (s : St) : List Int := bytesL s.list
theorem bytesS_length (s : St) : (bytesS s).length = 32 := rfl
theorem bytesW_byte (x : BitVec 32) : ∀ n ∈ bytesW x, 0 ≤ n ∧ n < 256 := by
  intro n hn
  simp only [bytesW, List.mem_cons, List.not_mem_nil, or_false] at hn
  rcases hn with rfl | rfl | rfl | rfl <;> omega
theorem bytesL_byte (l : List (BitVec 32)) : ∀ n ∈ bytesL l, 0 ≤ n ∧ n < 256 := by
  induction l with
  | nil => intro n hn; cases hn
  | cons x r ih =>
    intro n hn
    rcases List.mem_append.1 hn with h | h
    · exact bytesW_byte x n h
    · exact ih n h
theorem bytesL_snoc (l : List (BitVec 32)) (x : BitVec 32) : bytesL (l ++ [x]) = bytesL l ++ bytesW x := by
  induction l with
  | nil => simp [bytesL]
  | cons y r ih => simp [bytesL, ih]
theorem bytesL_length (l : List (BitVec 32)) : (bytesL l).length = 4 * l.length := by
  induction l with
  | nil => rfl
  | cons x r ih => simp [bytesL, bytesW, ih]; omega

/-- the digest's words behind the first k blocks of l -/
def digS (l : List Int) : Nat → St
  | 0 => start
  | k + 1 => mixS (digS l k) (sched ((l.drop (64 * k)).take 64))
/-- the digest -/
def dig (l : List Int) : List Int := bytesS (digS (pad l) ((pad l).length / 64))
theorem dig_length (l : List Int) : (dig l).length = 32 := rfl
theorem dig_byte (l : List Int) : ∀ n ∈ dig l, 0 ≤ n ∧ n < 256 := bytesL_byte _

end Go.Proofs.YtakgfdbjgeopdabDoor
