/-
  Words as numbers of 64 bits, and rows of such words in memory.
-/
import Derived.Deep.QuietTactic
import Derived.Deep.RegionWith
import Derived.BigRegion
import Derived.Test.YtmpefofifbehjaaDoorKg20
import Derived.Test.YtmpefofifbehjaaDoorKg2
import Derived.Test.YtmpefofifbehjaaDoorKg16
import Derived.Test.YtmpefofifbehjaaDoorKg3
namespace Go.Proofs.YtmpefofifbehjaaDoor
open Go.RowKit

theorem ofInt64 (a : Nat) (h : a < 4294967296) : (BitVec.ofInt 64 (a : Int)).toNat = a := by
  rw [BitVec.ofInt_natCast, BitVec.toNat_ofNat]; exact Nat.mod_eq_of_lt (by omega)
theorem wrap64 (n : Nat) (h : n < 4294967296) : IntKind.i64.wrap (n : Int) = n := by
  simp [IntKind.wrap, IntKind.bits, IntKind.signed]
  omega
theorem uw_xor64 (x y : BitVec 32) : bits .xor .i64 (uw x) (uw y) = uw (x ^^^ y) := by
  unfold uw
  show IntKind.i64.wrap ((BitVec.ofInt 64 (x.toNat : Int) ^^^ BitVec.ofInt 64 (y.toNat : Int)).toNat : Int) = _
  rw [BitVec.toNat_xor, ofInt64 _ x.isLt, ofInt64 _ y.isLt, wrap64 _ (Nat.xor_lt_two_pow (n := 32) x.isLt y.isLt), BitVec.toNat_xor]
theorem uw_and64 (x y : BitVec 32) : bits .and .i64 (uw x) (uw y) = uw (x &&& y) := by
  unfold uw
  show IntKind.i64.wrap ((BitVec.ofInt 64 (x.toNat : Int) &&& BitVec.ofInt 64 (y.toNat : Int)).toNat : Int) = _
  rw [BitVec.toNat_and, ofInt64 _ x.isLt, ofInt64 _ y.isLt, wrap64 _ (Nat.and_lt_two_pow (n := 32) _ y.isLt), BitVec.toNat_and]
theorem uw_or64 (x y : BitVec 32) : bits .or .i64 (uw x) (uw y) = uw (x ||| y) := by
  unfold uw
  show IntKind.i64.wrap ((BitVec.ofInt 64 (x.toNat : Int) ||| BitVec.ofInt 64 (y.toNat : Int)).toNat : Int) = _
  rw [BitVec.toNat_or, ofInt64 _ x.isLt, ofInt64 _ y.isLt, wrap64 _ (Nat.or_lt_two_pow (n := 32) x.isLt y.isLt), BitVec.toNat_or]

theorem take_set_succ (xs : List (BitVec 32)) (k : Nat) (a : BitVec 32) (h : k < xs.length) : (xs.set k a).take (k + 1) = xs.take k ++ [a] := by
  rw [List.take_succ_eq_append_getElem (by simpa using h), List.take_set_of_le (by omega)]
  simp

def iw (x : BitVec 32) : Value := .int .i64 (uw x)

structure Wl (w : World) (v : Value) (ws : List (BitVec 32)) : Prop where
  ex : ∃ g cap, v = .slice (some ⟨g, 0, none⟩) ws.length cap ∧ g < w.heap.size ∧ ws.length ≤ cap ∧ ∀ i, i < ws.length → w.cell? ⟨g, i, none⟩ = some (.int .i64 (uw (ws.getD i 0#32)))

theorem Wl.below {w w' : World} {v : Value} {ws : List (BitVec 32)} (h : Wl w v ws) (hb : Below w.heap.size w w') : Wl w' v ws := by
  obtain ⟨g, cap, rfl, hg, hc, hcell⟩ := h.ex
  exact ⟨g, cap, rfl, Nat.lt_of_lt_of_le hg hb.size, hc, fun i hi => (hb.cell (p := ⟨g, i, none⟩) hg).trans (hcell i hi)⟩

theorem Wl.ofOwns {w : World} {base : Nat} {v : Value} {ws : List (BitVec 32)} (h : w.ownsRow base 3 1 v ws.length (ws.map iw)) (hne : 0 < ws.length) : Wl w v ws := by
  rcases h.2 with ⟨rfl, h0⟩ | ⟨g, cap, cur, rfl, _, hg, hn, _, hcs, ht⟩
  · omega
  · refine ⟨g, cap, rfl, (Array.getElem?_eq_some_iff.1 hg).1, hn, fun i hi => ?_⟩
    have hc := h.cells (g := g) rfl i (iw (ws.getD i 0#32)) (by simp [List.getElem?_eq_getElem hi, List.getD])
    have hadd : (⟨g, 0, none⟩ : Addr).add i = ⟨g, i, none⟩ := by unfold Addr.add; split <;> simp_all
    rw [hadd] at hc
    simpa [iw] using hc

theorem Wl.ofRow {w : World} {g : Nat} {ws : List (BitVec 32)} {e : TypeId} {q : Nat × Nat} (h : w.heap[g]? = some (.cells (ws.map iw).toArray e q)) {n : Nat} (hn : ws.length = n) : Wl w (.slice (some ⟨g, 0, none⟩) n n) ws := by
  subst hn
  refine ⟨g, ws.length, rfl, (Array.getElem?_eq_some_iff.1 h).1, Nat.le_refl _, fun i hi => ?_⟩
  rw [cell_of_row _ _ i _ _ _ h]
  simp [List.getElem?_eq_getElem hi, List.getD, iw]

theorem info3 : (Tryd.prog.info? 3).map (fun i => (i.zero, i.size, i.bytes)) = some (some (.int .i64 0), 1, 8) := by kernel_rfl

/-- one word more behind a row of words of the call's own -/
theorem run_append_word (w : World) (base ty : Nat) (v : Value) (ws : List (BitVec 32)) (hown : w.ownsRow base 3 1 v ws.length (ws.map iw)) (g : Nat) (x : BitVec 32) (hu : w.cell? ⟨g, 0, none⟩ = some (.int .i64 (uw x)))
    (hlen : ws.length ≤ 1000000) (hbase : base ≤ w.heap.size) :
    ∃ v' w', (Builtin.append_ #[87, 87] ty #[v, .slice (some ⟨g, 0, none⟩) 1 1]).run Tryd.prog w = .ok v' w' ∧ w'.ownsRow base 3 1 v' (ws ++ [x]).length ((ws ++ [x]).map iw) ∧ w.grownBy w' v.ownBlock := by
  obtain ⟨i, hi, hz, hsz, hby⟩ := info_parts info3
  obtain ⟨v', w', hr, ho, hg, _⟩ := run_append_own (P := Tryd.prog) w base 87 ty 3 i (.int .i64 0) 1 8 Tryd.underlying87 hi hz hsz hby rfl (by decide) v ws.length _ hown ⟨g, 0, none⟩ 1 1 [iw x] (by simp)
    (by
      intro j u hj
      obtain rfl : j = 0 := by
        have := (List.getElem?_eq_some_iff.1 hj).1
        simpa using this
      simp at hj
      subst hj
      exact hu)
    (by simp [iw, Value.oneCell']) (by unfold maxLen; omega) (by omega) hbase
  exact ⟨v', w', hr, by simpa using ho, hg⟩

theorem wpList_append_word (w : World) {ops : Array Oper} {rest : List Oper} {o : Oper} {a : Act} {Q : Exit → Act → World → Prop} (hgd : o.guard = none) (s y : Operand)
    (ho : o.op = .call { callee := .builtin .append, args := #[s, y], argTypes := #[87, 87] })
    (base : Nat) (v : Value) (ws : List (BitVec 32)) (g : Nat) (x : BitVec 32) (hs : a.eval s = v) (hx : a.eval y = .slice (some ⟨g, 0, none⟩) 1 1) (hown : w.ownsRow base 3 1 v ws.length (ws.map iw)) (hu : w.cell? ⟨g, 0, none⟩ = some (.int .i64 (uw x)))
    (hlen : ws.length ≤ 1000000) (hbase : base ≤ w.heap.size)
    (h : ∀ v' w', w'.ownsRow base 3 1 v' (ws ++ [x]).length ((ws ++ [x]).map iw) → w.grownBy w' v.ownBlock → wpList Tryd.prog ops Q rest (a.put o.dst v') w') : wpList Tryd.prog ops Q (o :: rest) a w := by
  refine wpList_plain hgd fun K hK => ?_
  obtain ⟨v', w', hrun, r1, r2⟩ := run_append_word w base o.type v ws hown g x hu hlen hbase
  unfold Oper.wp execOp
  simp only [ho, resolve, invoke, builtin, Sem.run_bind, Sem.run_pure, Result.andThen_ok, List.map_toArray, List.map_cons, List.map_nil, hs, hx, hrun]
  exact hK _ _ (h v' w' r1 r2)
end Go.Proofs.YtmpefofifbehjaaDoor
/-
  Words as numbers of 64 bits, and rows of such words: what the document's own functions reckon with.
-/
namespace Go.Proofs.YtmpefofifbehjaaDoor
open Go.RowKit

set_option maxRecDepth 100000 in
theorem sig0_ref (x : BitVec 32) : bits .xor .i64 (bits .xor .i64 (uw (x.rotateRight 7)) (uw (x.rotateRight 18))) (uw x / 8) = uw (sig0 x) := by rw [uw_shr3, uw_xor64, uw_xor64]; rfl
set_option maxRecDepth 100000 in
theorem sig1_ref (x : BitVec 32) : bits .xor .i64 (bits .xor .i64 (uw (x.rotateRight 17)) (uw (x.rotateRight 19))) (uw x / 1024) = uw (sig1 x) := by rw [uw_shr10, uw_xor64, uw_xor64]; rfl
set_option maxRecDepth 100000 in
theorem big1_ref (x : BitVec 32) : bits .xor .i64 (bits .xor .i64 (uw (x.rotateRight 6)) (uw (x.rotateRight 11))) (uw (x.rotateRight 25)) = uw (big1 x) := by rw [uw_xor64, uw_xor64]; rfl
set_option maxRecDepth 100000 in
theorem big0_ref (x : BitVec 32) : bits .xor .i64 (bits .xor .i64 (uw (x.rotateRight 2)) (uw (x.rotateRight 13))) (uw (x.rotateRight 22)) = uw (big0 x) := by rw [uw_xor64, uw_xor64]; rfl

set_option maxRecDepth 100000 in
theorem choice_ref (e f g : BitVec 32) : bits .and .i64 (uw e) (uw f) + bits .and .i64 (4294967295 - uw e) (uw g) = uw (choice e f g) := by
  rw [uw_not, uw_and64, uw_and64]
  have h : (e &&& f) &&& (~~~e &&& g) = 0#32 := by
    ext i hi
    simp
    cases e[i] <;> simp
  unfold uw
  rw [← Int.natCast_add, ← BitVec.toNat_add_of_and_eq_zero h, BitVec.add_eq_or_of_and_eq_zero _ _ h]
  congr 2
  unfold choice
  ext i hi
  simp
  cases e[i] <;> simp
set_option maxRecDepth 100000 in
theorem most_ref (a b c : BitVec 32) : bits .or .i64 (bits .or .i64 (bits .and .i64 (uw a) (uw b)) (bits .and .i64 (uw a) (uw c))) (bits .and .i64 (uw b) (uw c)) = uw (most a b c) := by
  rw [uw_and64, uw_and64, uw_and64, uw_or64, uw_or64]
  congr 1
  unfold most
  ext i hi
  simp
  cases a[i] <;> cases b[i] <;> cases c[i] <;> rfl

set_option maxRecDepth 100000 in
theorem word_ref (a b c d : BitVec 32) (ha : uw a < 256) (hb : uw b < 256) (hc : uw c < 256) (hd : uw d < 256) : 16777216 * uw a + 65536 * uw b + 256 * uw c + uw d = uw (a <<< 24 ||| b <<< 16 ||| c <<< 8 ||| d) := by
  have h1 := (shl_byte a ha).1
  have h2 := (shl_byte b hb).2.1
  have h3 := (shl_byte c hc).2.2
  unfold uw at *
  rw [BitVec.toNat_or, BitVec.toNat_or, BitVec.toNat_or]
  generalize (a <<< 24).toNat = A at *
  generalize (b <<< 16).toNat = B at *
  generalize (c <<< 8).toNat = C at *
  generalize a.toNat = a' at *
  generalize b.toNat = b' at *
  generalize c.toNat = c' at *
  generalize d.toNat = d' at *
  rw [nat_join 24 A B (by omega) (by omega), nat_join 16 (A + B) C (by omega) (by omega), nat_join 8 (A + B + C) d' (by omega) (by omega)]
  omega

end Go.Proofs.YtmpefofifbehjaaDoor
/-
  The stream as plain functions of lists. No program is named here.
-/
namespace Go.Proofs.YtmpefofifbehjaaDoor
open Go.RowKit

def gro1 (s : List (BitVec 32)) (a b : Nat) : List (BitVec 32) := s.set a (s.getD a 0#32 + s.getD b 0#32)
def gro2 (s : List (BitVec 32)) (a t n : Nat) : List (BitVec 32) := s.set t ((s.getD t 0#32 ^^^ s.getD a 0#32).rotateLeft n)
def growL (s : List (BitVec 32)) (a b t n : Nat) : List (BitVec 32) := gro2 (gro1 s a b) a t n
def quartL (s : List (BitVec 32)) (a b c d : Nat) : List (BitVec 32) := growL (growL (growL (growL s a b d 16) c d b 12) a b d 8) c d b 7
theorem gro1_length (s : List (BitVec 32)) (a b : Nat) : (gro1 s a b).length = s.length := by simp [gro1]
theorem gro2_length (s : List (BitVec 32)) (a t n : Nat) : (gro2 s a t n).length = s.length := by simp [gro2]
theorem growL_length (s : List (BitVec 32)) (a b t n : Nat) : (growL s a b t n).length = s.length := by rw [growL, gro2_length, gro1_length]
theorem quartL_length (s : List (BitVec 32)) (a b c d : Nat) : (quartL s a b c d).length = s.length := by simp only [quartL, growL_length]

/-- where the quarters of a turn stand -/
def qTab : List Nat := [0, 4, 8, 12, 1, 5, 9, 13, 2, 6, 10, 14, 3, 7, 11, 15, 0, 5, 10, 15, 1, 6, 11, 12, 2, 7, 8, 13, 3, 4, 9, 14]
/-- the first k quarters of a turn -/
def turnL (s : List (BitVec 32)) : Nat → List (BitVec 32)
  | 0 => s
  | k + 1 => quartL (turnL s k) (qTab.getD (4 * k) 0) (qTab.getD (4 * k + 1) 0) (qTab.getD (4 * k + 2) 0) (qTab.getD (4 * k + 3) 0)
def turnsL (s : List (BitVec 32)) : Nat → List (BitVec 32)
  | 0 => s
  | k + 1 => turnL (turnsL s k) 8
theorem turnL_length (s : List (BitVec 32)) (k : Nat) : (turnL s k).length = s.length := by
  induction k with
  | zero => rfl
  | succ k ih => rw [turnL, quartL_length, ih]
theorem turnsL_length (s : List (BitVec 32)) (k : Nat) : (turnsL s k).length = s.length := by
  induction k with
  | zero => rfl
  | succ k ih => rw [turnsL, turnL_length, ih]
theorem qTab_lt (i : Nat) : qTab.getD i 0 < 16 := by
  have all : ∀ j : Fin 32, qTab.getD j.val 0 < 16 := by decide
  rcases Nat.lt_or_ge i 32 with h | h
  · exact all ⟨i, h⟩
  · rw [List.getD, List.getElem?_eq_none (by simpa [qTab] using h)]; decide

/-- a word as four bytes, the lowest one first -/
def bytesU (x : BitVec 32) : List Int := [uw x % 256, uw x / 256 % 256, uw x / 65536 % 256, uw x / 16777216 % 256]
/-- the sum of two states -/
def addW (s t : List (BitVec 32)) (i : Nat) : BitVec 32 := s.getD i 0#32 + t.getD i 0#32
/-- the first k words, written -/
def outL (s t : List (BitVec 32)) : Nat → List Int
  | 0 => []
  | k + 1 => outL s t k ++ bytesU (addW s t k)
theorem outL_length (s t : List (BitVec 32)) (k : Nat) : (outL s t k).length = 4 * k := by
  induction k with
  | zero => rfl
  | succ k ih => simp [outL, bytesU, ih]; omega
theorem bytesU_byte (x : BitVec 32) : ∀ n ∈ bytesU x, 0 ≤ n ∧ n < 256 := by
  intro n hn
  simp only [bytesU, List.mem_cons, List.not_mem_nil, or_false] at hn
  rcases hn with rfl | rfl | rfl | rfl <;> omega
theorem outL_byte (s t : List (BitVec 32)) (k : Nat) : ∀ n ∈ outL s t k, 0 ≤ n ∧ n < 256 := by
  induction k with
  | zero => intro n hn; cases hn
  | succ k ih =>
    intro n hn
    rcases List.mem_append.1 hn with h | h
    · exact ih n h
    · exact bytesU_byte _ n h
/-- a block of a state -/
def blockL (s : List (BitVec 32)) : List Int := outL (turnsL s 10) s 16
theorem blockL_length (s : List (BitVec 32)) : (blockL s).length = 64 := outL_length _ _ _
theorem blockL_byte (s : List (BitVec 32)) : ∀ n ∈ blockL s, 0 ≤ n ∧ n < 256 := outL_byte _ _ _

/-- a word of four bytes, the lowest one first -/
def wordU (l : List Int) (i : Nat) : BitVec 32 := byteW (l.getD (4 * i) 0) ||| byteW (l.getD (4 * i + 1) 0) <<< 8 ||| byteW (l.getD (4 * i + 2) 0) <<< 16 ||| byteW (l.getD (4 * i + 3) 0) <<< 24
/-- the first k words of l, from place off on -/
def readL (s : List (BitVec 32)) (off : Nat) (l : List Int) : Nat → List (BitVec 32)
  | 0 => s
  | k + 1 => (readL s off l k).set (off + k) (wordU l k)
theorem readL_length (s : List (BitVec 32)) (off : Nat) (l : List Int) (k : Nat) : (readL s off l k).length = s.length := by
  induction k with
  | zero => rfl
  | succ k ih => simp [readL, ih]
def sigmaL : List (BitVec 32) := [1634760805#32, 857760878#32, 2036477234#32, 1797285236#32, 0#32, 0#32, 0#32, 0#32, 0#32, 0#32, 0#32, 0#32, 0#32, 0#32, 0#32, 0#32]
def begunL (key : List Int) (c : BitVec 32) (nonce : List Int) : List (BitVec 32) := readL ((readL sigmaL 4 key 8).set 12 c) 13 nonce 3
theorem begunL_length (key : List Int) (c : BitVec 32) (nonce : List Int) : (begunL key c nonce).length = 16 := by
  simp [begunL, readL_length, sigmaL]
theorem begunL_list (key : List Int) (c : BitVec 32) (nonce : List Int) : begunL key c nonce = [1634760805#32, 857760878#32, 2036477234#32, 1797285236#32, wordU key 0, wordU key 1, wordU key 2, wordU key 3, wordU key 4, wordU key 5, wordU key 6, wordU key 7, c, wordU nonce 0, wordU nonce 1, wordU nonce 2] := rfl
theorem begunL_counter (key : List Int) (c d : BitVec 32) (nonce : List Int) : (begunL key c nonce).set 12 d = begunL key d nonce := rfl
theorem begunL_at (key : List Int) (c : BitVec 32) (nonce : List Int) : (begunL key c nonce).getD 12 0#32 = c := rfl

/-- exclusive or of bytes -/
def bx (x y : Int) : Int := ((x.toNat ^^^ y.toNat : Nat) : Int)
theorem bx_byte {x y : Int} (hx : 0 ≤ x ∧ x < 256) (hy : 0 ≤ y ∧ y < 256) : 0 ≤ bx x y ∧ bx x y < 256 := by
  unfold bx
  have : x.toNat ^^^ y.toNat < 2 ^ 8 := Nat.xor_lt_two_pow (by omega) (by omega)
  omega
theorem bx_bx {x y : Int} (hy : 0 ≤ y) : bx x (bx x y) = y := by
  unfold bx
  rw [Int.toNat_natCast, ← Nat.xor_assoc, Nat.xor_self, Nat.zero_xor]
  omega
theorem bx_zero {x : Int} (hx : 0 ≤ x) : bx x 0 = x := by
  unfold bx
  rw [Int.toNat_zero, Nat.xor_zero]
  omega

/-- the byte of the stream of a state at a place -/
def strAt (s : List (BitVec 32)) (i : Nat) : Int := (blockL (s.set 12 (s.getD 12 0#32 + BitVec.ofNat 32 (i / 64)))).getD (i % 64) 0
theorem strAt_byte (s : List (BitVec 32)) (i : Nat) : 0 ≤ strAt s i ∧ strAt s i < 256 := getD_byte (blockL_byte _) _
/-- the first k bytes of d, mixed with the stream -/
def mixTo (s : List (BitVec 32)) (d : List Int) : Nat → List Int
  | 0 => []
  | k + 1 => mixTo s d k ++ [bx (strAt s k) (d.getD k 0)]
def mixL (s : List (BitVec 32)) (d : List Int) : List Int := mixTo s d d.length
theorem mixTo_length (s : List (BitVec 32)) (d : List Int) (k : Nat) : (mixTo s d k).length = k := by
  induction k with
  | zero => rfl
  | succ k ih => simp [mixTo, ih]
theorem mixL_length (s : List (BitVec 32)) (d : List Int) : (mixL s d).length = d.length := mixTo_length _ _ _
theorem mixTo_byte (s : List (BitVec 32)) {d : List Int} (hd : ∀ x ∈ d, 0 ≤ x ∧ x < 256) (k : Nat) : ∀ n ∈ mixTo s d k, 0 ≤ n ∧ n < 256 := by
  induction k with
  | zero => intro n hn; cases hn
  | succ k ih =>
    intro n hn
    rcases List.mem_append.1 hn with h | h
    · exact ih n h
    · obtain rfl : n = _ := by simpa using h
      exact bx_byte (strAt_byte _ _) (getD_byte hd k)
theorem mixL_byte (s : List (BitVec 32)) {d : List Int} (hd : ∀ x ∈ d, 0 ≤ x ∧ x < 256) : ∀ n ∈ mixL s d, 0 ≤ n ∧ n < 256 := mixTo_byte s hd _
theorem mixTo_at (s : List (BitVec 32)) (d : List Int) (k i : Nat) (hi : i < k) : (mixTo s d k).getD i 0 = bx (strAt s i) (d.getD i 0) := by
  induction k with
  | zero => omega
  | succ k ih =>
    rw [mixTo]
    rcases Nat.lt_or_ge i k with h | h
    · rw [← ih h]
      simp [List.getD, List.getElem?_append_left (show i < (mixTo s d k).length by rw [mixTo_length]; exact h)]
    · obtain rfl : i = k := by omega
      simp [List.getD, mixTo_length]
theorem list_ext {l m : List Int} (hl : l.length = m.length) (h : ∀ i, i < l.length → l.getD i 0 = m.getD i 0) : l = m := by
  refine List.ext_getElem hl fun i h1 h2 => ?_
  have := h i h1
  rwa [getD_at h1, getD_at h2] at this
theorem mix_twice (s : List (BitVec 32)) {d : List Int} (hd : ∀ x ∈ d, 0 ≤ x ∧ x < 256) : mixL s (mixL s d) = d := by
  refine list_ext (by rw [mixL_length, mixL_length]) fun i hi => ?_
  rw [mixL_length, mixL_length] at hi
  rw [mixL, mixTo_at _ _ _ _ (by rw [mixL_length]; exact hi), mixL, mixTo_at _ _ _ _ hi, bx_bx (getD_byte hd i).1]

end Go.Proofs.YtmpefofifbehjaaDoor
/-
  What walks of the document's own words share.
-/
namespace Go.Proofs.YtmpefofifbehjaaDoor
open Go.RowKit

theorem word_at (m : Int) (x : BitVec 32) (hm : m % 4294967296 = uw x) (w : World) (h0 : 0 ≤ m) (h1 : m ≤ 9223372036854775807) :
    Calls Tryd.prog 57 #[.int .i64 m] w fun e w' => e = .returned (.int .i64 (uw x)) ∧ w' = w := by
  rw [← hm]
  exact word32_any m w h0 h1

/-- a region that may be walked in several orders, all of which end alike: what follows is walked once -/
theorem region_merge {P : Program} {id : Nat} {ops : Array Oper} {K : Act → World → Prop} {Q : Exit → Act → World → Prop} {a : Act} {w : World} (R : World → Prop) {A : Act}
    (hreg : ∀ K' : Act → World → Prop, Hid (∀ W2, R W2 → K' A W2) → (Code.region id ops true).wp P (Exit.then K' Q) a w) (hrest : ∀ W2, R W2 → K A W2) : (Code.region id ops true).wp P (Exit.then K Q) a w := hreg K hrest

/-- the words ws stand at the head of the row g -/
structure WRow (w : World) (g cap : Nat) (ws : List (BitVec 32)) : Prop where
  ex : ∃ cur, w.heap[g]? = some (.cells cur 3 (0, 0)) ∧ cur.size = cap ∧ ws.length ≤ cap ∧ cur.toList.take ws.length = ws.map iw

theorem WRow.cell {w : World} {g cap : Nat} {ws : List (BitVec 32)} (h : WRow w g cap ws) (i : Nat) (hi : i < ws.length) : w.cell? ⟨g, i, none⟩ = some (.int .i64 (uw (ws.getD i 0#32))) := by
  obtain ⟨cur, hg, hs, hc, ht⟩ := h.ex
  rw [cell_of_row w _ i _ _ _ hg]
  have h1 : (cur.toList.take ws.length)[i]? = (ws.map iw)[i]? := by rw [ht]
  rw [List.getElem?_take, if_pos hi, List.getElem?_map, List.getElem?_eq_getElem hi] at h1
  rw [Array.getElem?_toList] at h1
  rw [h1]
  simp [iw, List.getD, List.getElem?_eq_getElem hi]
theorem WRow.frozen {w : World} {g cap : Nat} {ws : List (BitVec 32)} (h : WRow w g cap ws) (i : Nat) : w.frozen? ⟨g, i, none⟩ = false := by
  obtain ⟨cur, hg, _⟩ := h.ex
  exact frozen_of_row w _ i _ _ hg
theorem WRow.lt {w : World} {g cap : Nat} {ws : List (BitVec 32)} (h : WRow w g cap ws) : g < w.heap.size := by
  obtain ⟨cur, hg, _⟩ := h.ex
  exact (Array.getElem?_eq_some_iff.1 hg).1
theorem WRow.set {w : World} {g cap : Nat} {ws : List (BitVec 32)} (h : WRow w g cap ws) (i : Nat) (_hi : i < ws.length) (x : BitVec 32) : WRow (w.setCell ⟨g, i, none⟩ (.int .i64 (uw x))) g cap (ws.set i x) := by
  obtain ⟨cur, hg, hs, hc, ht⟩ := h.ex
  refine ⟨cur.setIfInBounds i (iw x), ?_, by simp [hs], by simpa using hc, ?_⟩
  · rw [heap_setCell_same _ _ _ _ _ _ hg]; rfl
  · rw [Array.toList_setIfInBounds, List.length_set, List.take_set, ht, List.map_set]
theorem WRow.drewN {w : World} {g cap : Nat} {ws : List (BitVec 32)} (h : WRow w g cap ws) (n : Nat) : WRow (w.drewN n) g cap ws := ⟨h.ex⟩
theorem WRow.drew {w : World} {g cap : Nat} {ws : List (BitVec 32)} (h : WRow w g cap ws) : WRow w.drew g cap ws := ⟨h.ex⟩
theorem WRow.wl {w : World} {g cap : Nat} {ws : List (BitVec 32)} (h : WRow w g cap ws) {n : Nat} (hn : ws.length = n) : Wl w (.slice (some ⟨g, 0, none⟩) n cap) ws := by
  subst hn
  obtain ⟨cur, hg, hs, hc, ht⟩ := h.ex
  exact ⟨g, cap, rfl, h.lt, hc, fun i hi => h.cell i hi⟩
theorem WRow.ofOwns {w : World} {base : Nat} {v : Value} {ws : List (BitVec 32)} (h : w.ownsRow base 3 1 v ws.length (ws.map iw)) (hne : 0 < ws.length) : ∃ g cap, v = .slice (some ⟨g, 0, none⟩) ws.length cap ∧ base ≤ g ∧ WRow w g cap ws := by
  rcases h.2 with ⟨rfl, h0⟩ | ⟨g, cap, cur, rfl, hb, hg, hn, _, hcs, ht⟩
  · omega
  · refine ⟨g, cap, rfl, hb, ⟨cur, hg, by omega, hn, ?_⟩⟩
    rwa [Nat.mul_one] at ht
end Go.Proofs.YtmpefofifbehjaaDoor
