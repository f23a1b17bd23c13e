/-
  The digest as plain functions of lists. No program is named here.
-/
import Derived.BigRegion
import Derived.Test.YtmpefofifbehjacDoorKd4
import Derived.Test.YtmpefofifbehjacDoorKd3
namespace Go.Proofs.YtmpefofifbehjacDoor
open Go.RowKit

def zeros (n : Nat) : Nat := (119 - n % 64) % 64
def lenBytes (n : Nat) : List Int := [((n * 8 / 2 ^ 56 % 256 : Nat) : Int), ((n * 8 / 2 ^ 48 % 256 : Nat) : Int), ((n * 8 / 2 ^ 40 % 256 : Nat) : Int), ((n * 8 / 2 ^ 32 % 256 : Nat) : Int),
  ((n * 8 / 2 ^ 24 % 256 : Nat) : Int), ((n * 8 / 2 ^ 16 % 256 : Nat) : Int), ((n * 8 / 2 ^ 8 % 256 : Nat) : Int), ((n * 8 / 2 ^ 0 % 256 : Nat) : Int)]
def padTo (l : List Int) (j : Nat) : List Int := l ++ [128] ++ List.replicate j 0
def pad (l : List Int) : List Int := padTo l (zeros l.length) ++ lenBytes l.length

theorem padTo_length (l : List Int) (j : Nat) : (padTo l j).length = l.length + 1 + j := by simp [padTo]; omega
theorem padTo_succ (l : List Int) (j : Nat) : padTo l j ++ [0] = padTo l (j + 1) := by
  simp only [padTo, List.append_assoc]
  rw [← List.replicate_succ']
theorem lenBytes_length (n : Nat) : (lenBytes n).length = 8 := rfl
theorem pad_length (l : List Int) : (pad l).length % 64 = 0 ∧ l.length < (pad l).length ∧ (pad l).length ≤ l.length + 72 := by
  unfold pad
  rw [List.length_append, padTo_length, lenBytes_length]
  unfold zeros
  omega
theorem padTo_byte {l : List Int} (h : ∀ x ∈ l, 0 ≤ x ∧ x < 256) (j : Nat) : ∀ x ∈ padTo l j, 0 ≤ x ∧ x < 256 := by
  intro x hx
  simp only [padTo, List.mem_append, List.mem_singleton, List.mem_replicate] at hx
  rcases hx with (hx | rfl) | ⟨_, rfl⟩
  · exact h x hx
  · omega
  · omega
theorem lenBytes_byte (n : Nat) : ∀ x ∈ lenBytes n, 0 ≤ x ∧ x < 256 := by
  intro x hx
  simp only [lenBytes, List.mem_cons, List.not_mem_nil, or_false] at hx
  rcases hx with rfl | rfl | rfl | rfl | rfl | rfl | rfl | rfl <;> omega
theorem pad_byte {l : List Int} (h : ∀ x ∈ l, 0 ≤ x ∧ x < 256) : ∀ x ∈ pad l, 0 ≤ x ∧ x < 256 := by
  intro x hx
  rcases List.mem_append.1 hx with h1 | h1
  · exact padTo_byte h _ x h1
  · exact lenBytes_byte _ x h1

theorem lenByte_cast (n s : Nat) : ((n * 8 / 2 ^ s % 256 : Nat) : Int) = (n : Int) * 8 / 2 ^ s % 256 := by
  rw [Int.natCast_emod, Int.natCast_ediv, Int.natCast_mul, Int.natCast_pow]
  rfl
theorem lenBytes_take (n k : Nat) (hk : k < 8) : (lenBytes n).take (k + 1) = (lenBytes n).take k ++ [(n : Int) * 8 / 2 ^ (56 - 8 * k) % 256] := by
  rw [← lenByte_cast]
  obtain rfl | rfl | rfl | rfl | rfl | rfl | rfl | rfl : k = 0 ∨ k = 1 ∨ k = 2 ∨ k = 3 ∨ k = 4 ∨ k = 5 ∨ k = 6 ∨ k = 7 := by omega
  all_goals rfl

/-- the words of a list, as the cells of an array -/
def wArr (ws : List (BitVec 32)) : Array Value := (ws.map fun x => Value.int .u32 (uw x)).toArray
theorem wArr_size (ws : List (BitVec 32)) : (wArr ws).size = ws.length := by simp [wArr]
theorem wArr_get (ws : List (BitVec 32)) (i : Nat) (h : i < ws.length) : (wArr ws)[i]? = some (.int .u32 (uw (ws.getD i 0#32))) := by
  simp [wArr, List.getD, List.getElem?_eq_getElem h]
theorem wArr_set (ws : List (BitVec 32)) (i : Nat) (x : BitVec 32) : (wArr ws).setIfInBounds i (.int .u32 (uw x)) = wArr (ws.set i x) := by
  apply Array.ext'
  simp [wArr, List.map_set]

def byteW (n : Int) : BitVec 32 := BitVec.ofNat 32 n.toNat
def wordOf (l : List Int) (i : Nat) : BitVec 32 := byteW (l.getD (4 * i) 0) <<< 24 ||| byteW (l.getD (4 * i + 1) 0) <<< 16 ||| byteW (l.getD (4 * i + 2) 0) <<< 8 ||| byteW (l.getD (4 * i + 3) 0)
def sig0 (x : BitVec 32) : BitVec 32 := x.rotateRight 7 ^^^ x.rotateRight 18 ^^^ x >>> 3
def sig1 (x : BitVec 32) : BitVec 32 := x.rotateRight 17 ^^^ x.rotateRight 19 ^^^ x >>> 10
def sch0 (l : List Int) : Nat → List (BitVec 32)
  | 0 => List.replicate 64 0#32
  | k + 1 => (sch0 l k).set k (wordOf l k)
def nextW (ws : List (BitVec 32)) (i : Nat) : BitVec 32 := ws.getD (i - 16) 0#32 + sig0 (ws.getD (i - 15) 0#32) + ws.getD (i - 7) 0#32 + sig1 (ws.getD (i - 2) 0#32)
def sch1 (l : List Int) : Nat → List (BitVec 32)
  | 0 => sch0 l 16
  | k + 1 => (sch1 l k).set (16 + k) (nextW (sch1 l k) (16 + k))
def sched (l : List Int) : List (BitVec 32) := sch1 l 48
theorem sch0_length (l : List Int) (k : Nat) : (sch0 l k).length = 64 := by
  induction k with
  | zero => simp [sch0]
  | succ k ih => simp [sch0, ih]
theorem sch1_length (l : List Int) (k : Nat) : (sch1 l k).length = 64 := by
  induction k with
  | zero => exact sch0_length l 16
  | succ k ih => simp [sch1, ih]
theorem sched_length (l : List Int) : (sched l).length = 64 := sch1_length l 48

theorem uw_byte (n : Int) (h : 0 ≤ n ∧ n < 256) : uw (byteW n) = n := by
  unfold uw byteW
  rw [BitVec.toNat_ofNat]
  omega
theorem uw_zero : uw 0#32 = 0 := rfl

def kTab : List Int := [1116352408, 1899447441, 3049323471, 3921009573, 961987163, 1508970993, 2453635748, 2870763221, 3624381080, 310598401, 607225278, 1426881987, 1925078388, 2162078206, 2614888103, 3248222580, 3835390401, 4022224774, 264347078, 604807628, 770255983, 1249150122, 1555081692, 1996064986, 2554220882, 2821834349, 2952996808, 3210313671, 3336571891, 3584528711, 113926993, 338241895, 666307205, 773529912, 1294757372, 1396182291, 1695183700, 1986661051, 2177026350, 2456956037, 2730485921, 2820302411, 3259730800, 3345764771, 3516065817, 3600352804, 4094571909, 275423344, 430227734, 506948616, 659060556, 883997877, 958139571, 1322822218, 1537002063, 1747873779, 1955562222, 2024104815, 2227730452, 2361852424, 2428436474, 2756734187, 3204031479, 3329325298]
def kAt (i : Nat) : BitVec 32 := BitVec.ofNat 32 (kTab.getD i 0).toNat

structure St where
  a : BitVec 32
  b : BitVec 32
  c : BitVec 32
  d : BitVec 32
  e : BitVec 32
  f : BitVec 32
  g : BitVec 32
  h : BitVec 32

def St.cells (s : St) : Array Value := #[.int .u32 (uw s.a), .int .u32 (uw s.b), .int .u32 (uw s.c), .int .u32 (uw s.d), .int .u32 (uw s.e), .int .u32 (uw s.f), .int .u32 (uw s.g), .int .u32 (uw s.h)]

def St.list (s : St) : List (BitVec 32) := [s.a, s.b, s.c, s.d, s.e, s.f, s.g, s.h]
theorem St.cells_eq (s : St) : s.cells = wArr s.list := rfl

def choice (e f g : BitVec 32) : BitVec 32 := (e &&& f) ^^^ (~~~e &&& g)
def most (a b c : BitVec 32) : BitVec 32 := (a &&& b) ^^^ (a &&& c) ^^^ (b &&& c)
def big1 (e : BitVec 32) : BitVec 32 := e.rotateRight 6 ^^^ e.rotateRight 11 ^^^ e.rotateRight 25
def big0 (a : BitVec 32) : BitVec 32 := a.rotateRight 2 ^^^ a.rotateRight 13 ^^^ a.rotateRight 22
def upS (s : St) (k w : BitVec 32) : BitVec 32 := s.h + big1 s.e + choice s.e s.f s.g + k + w
def downS (s : St) : BitVec 32 := big0 s.a + most s.a s.b s.c
def stepS (s : St) (k w : BitVec 32) : St := { a := upS s k w + downS s, b := s.a, c := s.b, d := s.c, e := s.d + upS s k w, f := s.e, g := s.f, h := s.g }
def roundsS (ws : List (BitVec 32)) (s : St) : Nat → St
  | 0 => s
  | k + 1 => stepS (roundsS ws s k) (kAt k) (ws.getD k 0#32)
def addS (s t : St) : St := { a := s.a + t.a, b := s.b + t.b, c := s.c + t.c, d := s.d + t.d, e := s.e + t.e, f := s.f + t.f, g := s.g + t.g, h := s.h + t.h }
/-- the first i words have been added -/
def addTo (s t : St) : Nat → List (BitVec 32)
  | 0 => s.list
  | i + 1 => (addTo s t i).set i ((addTo s t i).getD i 0#32 + t.list.getD i 0#32)
theorem addTo_length (s t : St) (i : Nat) : (addTo s t i).length = 8 := by
  induction i with
  | zero => rfl
  | succ i ih => simp [addTo, ih]
theorem addTo_all (s t : St) : addTo s t 8 = (addS s t).list := rfl
def mixS (s : St) (ws : List (BitVec 32)) : St := addS s (roundsS ws s 64)
def start : St := { a := 1779033703#32, b := 3144134277#32, c := 1013904242#32, d := 2773480762#32, e := 1359893119#32, f := 2600822924#32, g := 528734635#32, h := 1541459225#32 }

/-- a word as four bytes, the highest one first -/
def bytesW (x : BitVec 32) : List Int := [uw x / 16777216 % 256, uw x / 65536 % 256, uw x / 256 % 256, uw x % 256]
def bytesL : List (BitVec 32) → List Int
  | [] => []
  | x :: r => bytesW x ++ bytesL r
def bytesS (s : St) : List Int := bytesL s.list
theorem bytesS_length (s : St) : (bytesS s).length = 32 := rfl
theorem bytesW_byte (x : BitVec 32) : ∀ n ∈ bytesW x, 0 ≤ n ∧ n < 256 := by
  intro n hn
  simp only [bytesW, List.mem_cons, List.not_mem_nil, or_false] at hn
  rcases hn with rfl | rfl | rfl | rfl <;> omega
theorem bytesL_byte (l : List (BitVec 32)) : ∀ n ∈ bytesL l, 0 ≤ n ∧ n < 256 := by
  induction l with
  | nil => intro n hn; cases hn
  | cons x r ih =>
    intro n hn
    rcases List.mem_append.1 hn with h | h
    · exact bytesW_byte x n h
    · exact ih n h
theorem bytesL_snoc (l : List (BitVec 32)) (x : BitVec 32) : bytesL (l ++ [x]) = bytesL l ++ bytesW x := by
  induction l with
  | nil => simp [bytesL]
  | cons y r ih => simp [bytesL, ih]
theorem bytesL_length (l : List (BitVec 32)) : (bytesL l).length = 4 * l.length := by
  induction l with
  | nil => rfl
  | cons x r ih => simp [bytesL, bytesW, ih]; omega

/-- the digest's words behind the first k blocks of l -/
def digS (l : List Int) : Nat → St
  | 0 => start
  | k + 1 => mixS (digS l k) (sched ((l.drop (64 * k)).take 64))
/-- the digest -/
def dig (l : List Int) : List Int := bytesS (digS (pad l) ((pad l).length / 64))
theorem dig_length (l : List Int) : (dig l).length = 32 := rfl
theorem dig_byte (l : List Int) : ∀ n ∈ dig l, 0 ≤ n ∧ n < 256 := bytesL_byte _

end Go.Proofs.YtmpefofifbehjacDoor
/-
  The walk of the words of a block.
-/
namespace Go.Proofs.YtmpefofifbehjacDoor
open Go.RowKit

theorem shl_byte (x : BitVec 32) (h : uw x < 256) : uw x * 16777216 = uw (x <<< 24) ∧ uw x * 65536 = uw (x <<< 16) ∧ uw x * 256 = uw (x <<< 8) := by
  have h0 := uw_lo x
  have e24 := uw_shl x 24
  have e16 := uw_shl x 16
  have e8 := uw_shl x 8
  rw [← e24, ← e16, ← e8]
  refine ⟨?_, ?_, ?_⟩
  · rw [show (2 : Int) ^ 24 = 16777216 from rfl]; omega
  · rw [show (2 : Int) ^ 16 = 65536 from rfl]; omega
  · rw [show (2 : Int) ^ 8 = 256 from rfl]; omega

theorem below_setRowAt {B : Nat} {a w : World} (h : Below B a w) {g : Nat} (hg : B ≤ g) (cs : Array Value) : Below B a (w.setRow g cs) :=
  h.trans ⟨rfl, rfl, rfl, by simp, fun k hk => setRow_other w g k cs (by omega)⟩

theorem sig0_bits (x : BitVec 32) : bits .xor .u32 (bits .xor .u32 (uw (x.rotateRight 7)) (uw (x.rotateRight 18))) (uw x / 8) = uw (sig0 x) := by rw [uw_shr3, uw_xor, uw_xor]; rfl
theorem sig1_bits (x : BitVec 32) : bits .xor .u32 (bits .xor .u32 (uw (x.rotateRight 17)) (uw (x.rotateRight 19))) (uw x / 1024) = uw (sig1 x) := by rw [uw_shr10, uw_xor, uw_xor]; rfl

theorem arr_store {w : World} {g : Nat} {ws : List (BitVec 32)} (h : w.heap[g]? = some (.cells (wArr ws) 83 (0, 0))) (k : Nat) (x : BitVec 32) :
    (w.setCell ⟨g, k, none⟩ (.int .u32 (uw x))).heap[g]? = some (.cells (wArr (ws.set k x)) 83 (0, 0)) := by
  rw [heap_setCell_same _ _ _ _ _ _ h, wArr_set]

set_option maxHeartbeats 1000000 in
set_option maxRecDepth 100000 in
theorem schedule_any (v : Value) (l : List Int) (w : World) (h : Sl w v l) (hl : l.length = 64) :
    Calls Tryd.prog 31 #[v] w fun e w' => e = .returned (.agg (wArr (sched l))) ∧ Below w.heap.size w w' := by
  obtain ⟨⟨a, cap, rfl, hc, hn, h1⟩, hla, hba⟩ := h
  rcases h1 with rfl | ⟨b, off, rfl, hb, hcell⟩
  · simp at hl
  rw [hl] at hc hla hcell ⊢
  have HL : Hid (l.length = 64) := hl
  have HC : Hid (∀ i, i < 64 → w.cell? ⟨b, off + i, none⟩ = some (.int .u8 (uw (byteW (l.getD i 0))))) := fun i hi => by rw [uw_byte _ (getD_byte hba i)]; exact hcell i hi
  have HB : Hid (∀ i, uw (byteW (l.getD i 0)) < 256) := fun i => by rw [uw_byte _ (getD_byte hba i)]; exact (getD_byte hba i).2
  clear hl hn hcell hba
  go_enter Tryd.func31, Tryd.ntmps31
  go_wp2_with fail
  go_loopw [10] (fun i wr => ∃ k : Nat, k ≤ 16 ∧ i = .int .i64 k ∧ wr.heap[w.heap.size + 1]? = some (.cells (wArr (sch0 l k)) 83 (0, 0)) ∧ wr.heap[w.heap.size]? = some (.cells (wArr (sch0 l 0)) 83 (0, 0)) ∧ Below w.heap.size w wr) (fun i _ => 16 - (intOf i).toNat)
  case atStart => exact ⟨0, by omega, rfl, heap_alloc2_new _ _ _, heap_alloc2_old _ _ _, ((Below.refl _ _).alloc (Nat.le_refl _) _).alloc (by simp) _⟩
  case round =>
    obtain ⟨k, hk, rfl, hW, hR, hbel⟩ := hrel
    by_cases hk16 : k < 16
    · have hz := wArr_get (sch0 l k) k (by rw [sch0_length]; omega)
      have hcw : wr.cell? ⟨w.heap.size + 1, k, none⟩ = some (.int .u32 (uw ((sch0 l k).getD k 0#32))) := (cell_of_row wr _ k _ _ _ hW).trans hz
      have hfw : wr.frozen? ⟨w.heap.size + 1, k, none⟩ = false := frozen_of_row wr _ k _ _ hW
      have c0 := (hbel.cell (p := ⟨b, off + (4 * k), none⟩) hb).trans (HC.out (4 * k) (by omega))
      have c1 := (hbel.cell (p := ⟨b, off + (4 * k + 1), none⟩) hb).trans (HC.out (4 * k + 1) (by omega))
      have c2 := (hbel.cell (p := ⟨b, off + (4 * k + 2), none⟩) hb).trans (HC.out (4 * k + 2) (by omega))
      have c3 := (hbel.cell (p := ⟨b, off + (4 * k + 3), none⟩) hb).trans (HC.out (4 * k + 3) (by omega))
      have l0 := HB.out (4 * k)
      have l1 := HB.out (4 * k + 1)
      have l2 := HB.out (4 * k + 2)
      have l3 := HB.out (4 * k + 3)
      obtain ⟨wd, HW, HV⟩ : ∃ wd, Hid (wd = wordOf l k) ∧ Hid (sch0 l (k + 1) = (sch0 l k).set k wd) := ⟨_, rfl, rfl⟩
      unfold wordOf at HW
      generalize byteW (l.getD (4 * k) 0) = x0 at c0 l0 HW
      generalize byteW (l.getD (4 * k + 1) 0) = x1 at c1 l1 HW
      generalize byteW (l.getD (4 * k + 2) 0) = x2 at c2 l2 HW
      generalize byteW (l.getD (4 * k + 3) 0) = x3 at c3 l3 HW
      obtain ⟨y0, s0, e0⟩ : ∃ y, uw x0 * 16777216 = uw y ∧ x0 <<< 24 = y := ⟨_, (shl_byte x0 l0).1, rfl⟩
      obtain ⟨y1, s1, e1⟩ : ∃ y, uw x1 * 65536 = uw y ∧ x1 <<< 16 = y := ⟨_, (shl_byte x1 l1).2.1, rfl⟩
      obtain ⟨y2, s2, e2⟩ : ∃ y, uw x2 * 256 = uw y ∧ x2 <<< 8 = y := ⟨_, (shl_byte x2 l2).2.2, rfl⟩
      rw [e0, e1, e2] at HW
      clear e0 e1 e2
      have z0 := uw_lo x0
      have z1 := uw_lo x1
      have z2 := uw_lo x2
      have z3 := uw_lo x3
      clear hz
      go_wp2_with fail
      refine wp_region_quiet_tail 35 (by kernel_rfl) (by kernel_rfl) ?_
      simp only [List.take_succ_cons, List.take_zero, List.drop_succ_cons, List.drop_zero]
      repeat (go_big_quiet_step (fail))
      refine wpQuiet_nil ?_
      go_wp2
      rw [uw_or, uw_or, uw_or, ← HW.out]
      go_roundw
      case rel => exact ⟨k + 1, by omega, by go_num, by rw [HV.out]; exact arr_store hW k wd, (heap_setCell_other _ _ _ _ (by simp)).trans hR, (hbel.setCell (by simp) _).drew⟩
      case measure => simp [intOf]; omega
    · have HK : Hid (k = 16) := by unfold Hid; omega
      clear HC HB
      go_wp2_with fail
      go_loopw [5] (fun i wr => ∃ k : Nat, k ≤ 48 ∧ i = .int .i64 (16 + (k : Int)) ∧ wr.heap[w.heap.size + 1]? = some (.cells (wArr (sch1 l k)) 83 (0, 0)) ∧ wr.heap[w.heap.size]? = some (.cells (wArr (sch0 l 0)) 83 (0, 0)) ∧ Below w.heap.size w wr) (fun i _ => 64 - (intOf i).toNat)
      case atStart => exact ⟨0, by omega, rfl, by rw [HK.out] at hW; exact hW, hR, hbel⟩
      case round =>
        clear hW hR hbel HK
        obtain ⟨k, hk, rfl, hW, hR, hbel⟩ := hrel
        by_cases hk48 : k < 48
        · have hcell : ∀ i, i < 64 → wr.cell? ⟨w.heap.size + 1, i, none⟩ = some (.int .u32 (uw ((sch1 l k).getD i 0#32))) := fun i hi => (cell_of_row wr _ i _ _ _ hW).trans (wArr_get (sch1 l k) i (by rw [sch1_length]; exact hi))
          have c16 := hcell k (by omega)
          have c15 := hcell (16 + k - 15) (by omega)
          have c7 := hcell (16 + k - 7) (by omega)
          have c2 := hcell (16 + k - 2) (by omega)
          have c0 := hcell (16 + k) (by omega)
          have hfw : wr.frozen? ⟨w.heap.size + 1, 16 + k, none⟩ = false := frozen_of_row wr _ (16 + k) _ _ hW
          have HV : Hid (sch1 l (k + 1) = (sch1 l k).set (16 + k) (nextW (sch1 l k) (16 + k))) := rfl
          unfold nextW at HV
          have e16 : 16 + k - 16 = k := by omega
          rw [e16] at HV
          generalize (sch1 l k).getD k 0#32 = x16 at c16 HV
          generalize (sch1 l k).getD (16 + k - 15) 0#32 = x15 at c15 HV
          generalize (sch1 l k).getD (16 + k - 7) 0#32 = x7 at c7 HV
          generalize (sch1 l k).getD (16 + k - 2) 0#32 = x2 at c2 HV
          clear hcell e16
          have n15 := uw_lo x15
          have n2 := uw_lo x2
          go_wp2_with fail
          go_quiet (fail)
          go_wp2_with (go_at_call 36; refine (right_at _ _ _ (by omega) (by omega)).mono ?_; rintro e w' ⟨rfl, rfl⟩)
          rw [sig0_bits, sig1_bits]
          generalize sig0 x15 = t0 at HV
          generalize sig1 x2 = t1 at HV
          refine wp_region_quiet_tail 15 (by kernel_rfl) (by kernel_rfl) ?_
          simp only [List.take_succ_cons, List.take_zero, List.drop_succ_cons, List.drop_zero]
          repeat (go_big_quiet_step (fail))
          refine wpQuiet_nil ?_
          go_wp2
          go_roundw
          case rel =>
            rw [uw_sum4]
            exact ⟨k + 1, by omega, by go_num, by rw [HV.out]; exact arr_store (w := wr.drewN (nq + 1)) hW (16 + k) _, (heap_setCell_other _ _ _ _ (by simp)).trans hR, (below_drewN hbel _).setCell (by simp) _⟩
          case measure => simp [intOf]; omega
        · have HK : Hid (k = 48) := by unfold Hid; omega
          have hsz : (Tryd.prog.info? 83).map (·.size) = some (wArr (sch1 l k)).size := by rw [wArr_size, sch1_length]; kernel_rfl
          have hone : (wArr (sch1 l k)).all (·.oneCell') = true := by simp [wArr, Value.oneCell']
          go_wp2_with (first | (refine wpList_load_row rfl 83 _ rfl (w.heap.size + 1) rfl 83 _ (0, 0) _ hW Tryd.underlying83 rfl hsz ?_) | (refine wpList_store_row rfl 83 _ _ rfl w.heap.size _ rfl rfl 83 _ hR hsz (by rw [wArr_size, wArr_size, sch0_length, sch1_length]) hone ?_))
          refine bodyPost_ret (v := .agg (wArr (sch1 l k))) (results_cell_row rfl _ _ w.heap.size 83 _ (0, 0) _ rfl (setRow_heap wr w.heap.size _ _ 83 _ hR) Tryd.underlying83 rfl hsz) rfl ⟨by rw [HK.out]; rfl, below_setRowAt hbel (Nat.le_refl _) _⟩
end Go.Proofs.YtmpefofifbehjacDoor
