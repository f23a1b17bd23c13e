/-
  Words as numbers of 64 bits, and rows of such words: what the document's own functions reckon with.
-/
import Derived.Test.YtakgfdbjgeopdaaDoorRefRow0
import Derived.Test.YtakgfdbjgeopdaaDoorFreshDef
namespace Go.Proofs.YtakgfdbjgeopdaaDoor
open Go.RowKit

set_option maxRecDepth 100000 in
theorem sig0_ref (x : BitVec 32) : bits .xor .i64 (bits .xor .i64 (uw (x.rotateRight 7)) (uw (x.rotateRight 18))) (uw x / 8) = uw (sig0 x) := by rw [uw_shr3, uw_xor64, uw_xor64]; rfl
set_option maxRecDepth 100000 in
theorem sig1_ref (x : BitVec 32) : bits .xor .i64 (bits .xor .i64 (uw (x.rotateRight 17)) (uw (x.rotateRight 19))) (uw x / 1024) = uw (sig1 x) := by rw [uw_shr10, uw_xor64, uw_xor64]; rfl
set_option maxRecDepth 100000 in
theorem big1_ref (x : BitVec 32) : bits .xor .i64 (bits .xor .i64 (uw (x.rotateRight 6)) (uw (x.rotateRight 11))) (uw (x.rotateRight 25)) = uw (big1 x) := by rw [uw_xor64, uw_xor64]; rfl
set_option maxRecDepth 100000 in
theorem big0_ref (x : BitVec 32) : bits .xor .i64 (bits .xor .i64 (uw (x.rotateRight 2)) (uw (x.rotateRight 13))) (uw (x.rotateRight 22)) = uw (big0 x) := by rw [uw_xor64, uw_xor64]; rfl

set_option maxRecDepth 100000 in
theorem choice_ref (e f g : BitVec 32) : bits .and .i64 (uw e) (uw f) + bits .and .i64 (4294967295 - uw e) (uw g) = uw (choice e f g) := by
  rw [uw_not, uw_and64, uw_and64]
  have h : (e &&& f) &&& (~~~e &&& g) = 0#32 := by
    ext i hi
    simp
    cases e[i] <;> simp
  unfold uw
  rw [← Int.natCast_add, ← BitVec.toNat_add_of_and_eq_zero h, BitVec.add_eq_or_of_and_eq_zero _ _ h]
  congr 2
  unfold choice
  ext i hi
  simp
  cases e[i] <;> simp
set_option maxRecDepth 100000 in
theorem most_ref (a b c : BitVec 32) : bits .or .i64 (bits .or .i64 (bits .and .i64 (uw a) (uw b)) (bits .and .i64 (uw a) (uw c))) (bits .and .i64 (uw b) (uw c)) = uw (most a b c) := by
  rw [uw_and64, uw_and64, uw_and64, uw_or64, uw_or64]
  congr 1
  unfold most
  ext i hi
  simp
  cases a[i] <;> cases b[i] <;> cases c[i] <;> rfl

set_option maxRecDepth 100000 in
theorem word_ref (a b c d : BitVec 32) (ha : uw a < 256) (hb : uw b < 256) (hc : uw c < 256) (hd : uw d < 256) : 16777216 * uw a + 65536 * uw b + 256 * uw c + uw d = uw (a <<< 24 ||| b <<< 16 ||| c <<< 8 ||| d) := by
  have h1 := (shl_byte a ha).1
  have h2 := (shl_byte b hb).2.1
  have h3 := (shl_byte c hc).2.2
  unfold uw at *
  rw [BitVec.toNat_or, BitVec.toNat_or, BitVec.toNat_or]
  generalize (a <<< 24).toNat = A at *
  generalize (b <<< 16).toNat = B at *
  generalize (c <<< 8).toNat = C at *
  generalize a.toNat = a' at *
  generalize b.toNat = b' at *
  generalize c.toNat = c' at *
  generalize d.toNat = d' at *
  rw [nat_join 24 A B (by omega) (by omega), nat_join 16 (A + B) C (by omega) (by omega), nat_join 8 (A + B + C) d' (by omega) (by omega)]
  omega

end Go.Proofs.YtakgfdbjgeopdaaDoor
