/-
  The walk of the document's own power of two.
-/
import Derived.Test.YtpoaabjpeigooaaDoorQBase
import Derived.Test.YtpoaabjpeigooaaDoorQStream
import Derived.BigQuiet
import Derived.Deep.QuietTactic
import Derived.Deep.RegionWith
import Derived.BigRegion
import Derived.Deep.RegionHeld3
import Derived.Deep.AppendLies
namespace Go.Proofs.YtpoaabjpeigooaaDoor
open Go.RowKit

theorem ret_int {a b : Int} (h : a = b) : Ending.returned (.int .i64 a) = .returned (.int .i64 b) := by rw [h]

theorem power_any (n : Nat) (w : World) (hn : n ≤ 32) :
    Calls Tryd.prog 89 #[.int .i64 n] w fun e w' => e = .returned (.int .i64 ((2 ^ n : Nat) : Int)) ∧ w' = w := by
  go_enter Tryd.func89, Tryd.ntmps89
  go_wp2
  go_loop [3, 4] (fun p i => ∃ k : Nat, k ≤ n ∧ i = .int .i64 k ∧ p = .int .i64 ((2 ^ k : Nat) : Int)) (fun _ i => n - (intOf i).toNat)
  case atStart => exact ⟨0, by omega, rfl, rfl⟩
  case round =>
    obtain ⟨k, hk, rfl, rfl⟩ := hrel
    have hp : 2 ^ k ≤ 2 ^ 32 := Nat.pow_le_pow_right (by omega) (by omega)
    have hq : 2 ^ k ≤ 4294967296 := hp
    have HS : Hid (2 ^ (k + 1) = 2 * 2 ^ k) := by unfold Hid; rw [Nat.pow_succ, Nat.mul_comm]
    clear hp
    by_cases hlt : k < n
    · generalize 2 ^ k = P at hq HS ⊢
      go_wp2
      go_round
      case rel => exact ⟨k + 1, by omega, by go_num, by rw [HS.out]; go_num⟩
      case measure => simp [intOf]; omega
    · have HN : Hid (2 ^ n = 2 ^ k) := by unfold Hid; rw [show n = k by omega]
      generalize 2 ^ k = P at hq HS HN ⊢
      go_wp2
      go_ret
      exact ⟨ret_int (by rw [← HN.out]; simp), rfl⟩
end Go.Proofs.YtpoaabjpeigooaaDoor
/-
  The walks of the document's own small functions on words.
-/
namespace Go.Proofs.YtpoaabjpeigooaaDoor
open Go.RowKit

theorem turn_sum (x n : Nat) (hx : x < 4294967296) (h1 : n ≤ 32) : (x <<< (32 - n)) % 2 ^ 32 ||| x >>> n = x / 2 ^ n + x % 2 ^ n * 2 ^ (32 - n) := by
  have e1 : (x <<< (32 - n)) % 2 ^ 32 = x % 2 ^ n * 2 ^ (32 - n) := by
    rw [Nat.shiftLeft_eq]
    have : (2 : Nat) ^ 32 = 2 ^ n * 2 ^ (32 - n) := by rw [← Nat.pow_add]; congr 1; omega
    rw [this, Nat.mul_mod_mul_right]
  rw [e1, Nat.shiftRight_eq_div_pow]
  rw [nat_join (32 - n) _ _ (Nat.mul_mod_left _ _) ?_, Nat.add_comm]
  have : (2 : Nat) ^ 32 = 2 ^ n * 2 ^ (32 - n) := by rw [← Nat.pow_add]; congr 1; omega
  apply Nat.div_lt_of_lt_mul
  rw [← this]; exact hx

theorem uw_turned (x : BitVec 32) (n : Nat) (h0 : 1 ≤ n) (h1 : n ≤ 31) : uw x / ((2 ^ n : Nat) : Int) + uw x % ((2 ^ n : Nat) : Int) * ((2 ^ (32 - n) : Nat) : Int) = uw (x.rotateRight n) := by
  unfold uw
  rw [BitVec.rotateRight_def, Nat.mod_eq_of_lt (by omega : n < 32), BitVec.toNat_or, BitVec.toNat_ushiftRight, BitVec.toNat_shiftLeft, Nat.or_comm, turn_sum _ n x.isLt (by omega)]
  rw [Int.natCast_add, Int.natCast_mul, Int.natCast_ediv, Int.natCast_emod]

theorem turned_any (x : BitVec 32) (n : Nat) (w : World) (h0 : 1 ≤ n) (h1 : n ≤ 31) :
    Calls Tryd.prog 88 #[.int .i64 (uw x), .int .i64 n] w fun e w' => e = .returned (.int .i64 (uw (x.rotateRight n))) ∧ ∃ m, w' = w.drewN m := by
  have HT : Hid _ := uw_turned x n h0 h1
  have a1 := uw_lo x
  have a2 := uw_hi x
  have hP : 2 ^ n ≤ 2 ^ 31 := Nat.pow_le_pow_right (by omega) h1
  have hQ : 2 ^ (32 - n) ≤ 2 ^ 31 := Nat.pow_le_pow_right (by omega) (by omega)
  have hPQ : 2 ^ n * 2 ^ (32 - n) = 2 ^ 32 := by rw [← Nat.pow_add]; congr 1; omega
  have hP0 : 0 < 2 ^ n := Nat.two_pow_pos n
  have HPW : ∀ w, Calls Tryd.prog 89 #[.int .i64 n] w fun e w' => e = .returned (.int .i64 ((2 ^ n : Nat) : Int)) ∧ w' = w := fun w => power_any n w (by omega)
  have HPR : ∀ w, Calls Tryd.prog 89 #[.int .i64 (32 - (n : Int))] w fun e w' => e = .returned (.int .i64 ((2 ^ (32 - n) : Nat) : Int)) ∧ w' = w := fun w => by
    have := power_any (32 - n) w (by omega)
    rwa [show (((32 - n : Nat)) : Int) = 32 - (n : Int) by omega] at this
  generalize 2 ^ n = P at HT hP hPQ hP0 HPW
  generalize 2 ^ (32 - n) = Q at HT hQ hPQ HPR
  have hP31 : P ≤ 2147483648 := hP
  have hQ31 : Q ≤ 2147483648 := hQ
  have m0 : 0 ≤ uw x % (P : Int) := Int.emod_nonneg _ (by omega)
  have m1 : uw x % (P : Int) < P := Int.emod_lt_of_pos _ (by omega)
  have p0 : 0 ≤ uw x % (P : Int) * (Q : Int) := Int.mul_nonneg m0 (by omega)
  have p1 : uw x % (P : Int) * (Q : Int) ≤ 4294967296 := by
    have q1 : uw x % (P : Int) * (Q : Int) ≤ (P : Int) * (Q : Int) := Int.mul_le_mul_of_nonneg_right (by omega) (by omega)
    have q2 : (P : Int) * (Q : Int) = 4294967296 := by rw [← Int.natCast_mul, hPQ]; rfl
    omega
  have d0 : 0 ≤ uw x / (P : Int) := Int.ediv_nonneg a1 (by omega)
  have d1 : uw x / (P : Int) ≤ uw x := Int.ediv_le_self _ a1
  clear hP hQ hPQ
  go_enter Tryd.func88, Tryd.ntmps88
  go_wp2_with fail
  refine (HPW w).mono ?_
  rintro e w1 ⟨rfl, rfl⟩
  go_wp2_with fail
  go_quiet ((go_at_call 89; exact Calls.quiet_of_same (HPR _)))
  go_wp2
  go_ret
  exact ⟨ret_int HT.out, _, rfl⟩

theorem word32_any (m : Int) (w : World) (h0 : 0 ≤ m) (h1 : m ≤ 9223372036854775807) :
    Calls Tryd.prog 66 #[.int .i64 m] w fun e w' => e = .returned (.int .i64 (m % 4294967296)) ∧ w' = w := by
  go_enter Tryd.func66, Tryd.ntmps66
  go_wp2
  go_ret
  exact ⟨rfl, rfl⟩
end Go.Proofs.YtpoaabjpeigooaaDoor
/-
  Words as numbers of 64 bits, and rows of such words in memory.
-/
namespace Go.Proofs.YtpoaabjpeigooaaDoor
open Go.RowKit

theorem ofInt64 (a : Nat) (h : a < 4294967296) : (BitVec.ofInt 64 (a : Int)).toNat = a := by
  rw [BitVec.ofInt_natCast, BitVec.toNat_ofNat]; exact Nat.mod_eq_of_lt (by omega)
theorem wrap64 (n : Nat) (h : n < 4294967296) : IntKind.i64.wrap (n : Int) = n := by
  simp [IntKind.wrap, IntKind.bits, IntKind.signed]
  omega
theorem uw_xor64 (x y : BitVec 32) : bits .xor .i64 (uw x) (uw y) = uw (x ^^^ y) := by
  unfold uw
  show IntKind.i64.wrap ((BitVec.ofInt 64 (x.toNat : Int) ^^^ BitVec.ofInt 64 (y.toNat : Int)).toNat : Int) = _
  rw [BitVec.toNat_xor, ofInt64 _ x.isLt, ofInt64 _ y.isLt, wrap64 _ (Nat.xor_lt_two_pow (n := 32) x.isLt y.isLt), BitVec.toNat_xor]
theorem uw_and64 (x y : BitVec 32) : bits .and .i64 (uw x) (uw y) = uw (x &&& y) := by
  unfold uw
  show IntKind.i64.wrap ((BitVec.ofInt 64 (x.toNat : Int) &&& BitVec.ofInt 64 (y.toNat : Int)).toNat : Int) = _
  rw [BitVec.toNat_and, ofInt64 _ x.isLt, ofInt64 _ y.isLt, wrap64 _ (Nat.and_lt_two_pow (n := 32) _ y.isLt), BitVec.toNat_and]
theorem uw_or64 (x y : BitVec 32) : bits .or .i64 (uw x) (uw y) = uw (x ||| y) := by
  unfold uw
  show IntKind.i64.wrap ((BitVec.ofInt 64 (x.toNat : Int) ||| BitVec.ofInt 64 (y.toNat : Int)).toNat : Int) = _
  rw [BitVec.toNat_or, ofInt64 _ x.isLt, ofInt64 _ y.isLt, wrap64 _ (Nat.or_lt_two_pow (n := 32) x.isLt y.isLt), BitVec.toNat_or]

theorem take_set_succ (xs : List (BitVec 32)) (k : Nat) (a : BitVec 32) (h : k < xs.length) : (xs.set k a).take (k + 1) = xs.take k ++ [a] := by
  rw [List.take_succ_eq_append_getElem (by simpa using h), List.take_set_of_le (by omega)]
  simp

def iw (x : BitVec 32) : Value := .int .i64 (uw x)

structure Wl (w : World) (v : Value) (ws : List (BitVec 32)) : Prop where
  ex : ∃ g cap, v = .slice (some ⟨g, 0, none⟩) ws.length cap ∧ g < w.heap.size ∧ ws.length ≤ cap ∧ ∀ i, i < ws.length → w.cell? ⟨g, i, none⟩ = some (.int .i64 (uw (ws.getD i 0#32)))

theorem Wl.below {w w' : World} {v : Value} {ws : List (BitVec 32)} (h : Wl w v ws) (hb : Below w.heap.size w w') : Wl w' v ws := by
  obtain ⟨g, cap, rfl, hg, hc, hcell⟩ := h.ex
  exact ⟨g, cap, rfl, Nat.lt_of_lt_of_le hg hb.size, hc, fun i hi => (hb.cell (p := ⟨g, i, none⟩) hg).trans (hcell i hi)⟩

theorem Wl.ofOwns {w : World} {base : Nat} {v : Value} {ws : List (BitVec 32)} (h : w.ownsRow base 3 1 v ws.length (ws.map iw)) (hne : 0 < ws.length) : Wl w v ws := by
  rcases h.2 with ⟨rfl, h0⟩ | ⟨g, cap, cur, rfl, _, hg, hn, _, hcs, ht⟩
  · omega
  · refine ⟨g, cap, rfl, (Array.getElem?_eq_some_iff.1 hg).1, hn, fun i hi => ?_⟩
    have hc := h.cells (g := g) rfl i (iw (ws.getD i 0#32)) (by simp [List.getElem?_eq_getElem hi, List.getD])
    have hadd : (⟨g, 0, none⟩ : Addr).add i = ⟨g, i, none⟩ := by unfold Addr.add; split <;> simp_all
    rw [hadd] at hc
    simpa [iw] using hc

theorem Wl.ofRow {w : World} {g : Nat} {ws : List (BitVec 32)} {e : TypeId} {q : Nat × Nat} (h : w.heap[g]? = some (.cells (ws.map iw).toArray e q)) {n : Nat} (hn : ws.length = n) : Wl w (.slice (some ⟨g, 0, none⟩) n n) ws := by
  subst hn
  refine ⟨g, ws.length, rfl, (Array.getElem?_eq_some_iff.1 h).1, Nat.le_refl _, fun i hi => ?_⟩
  rw [cell_of_row _ _ i _ _ _ h]
  simp [List.getElem?_eq_getElem hi, List.getD, iw]

theorem info3 : (Tryd.prog.info? 3).map (fun i => (i.zero, i.size, i.bytes)) = some (some (.int .i64 0), 1, 8) := by kernel_rfl

/-- one word more behind a row of words of the call's own -/
theorem run_append_word (w : World) (base ty : Nat) (v : Value) (ws : List (BitVec 32)) (hown : w.ownsRow base 3 1 v ws.length (ws.map iw)) (g : Nat) (x : BitVec 32) (hu : w.cell? ⟨g, 0, none⟩ = some (.int .i64 (uw x)))
    (hlen : ws.length ≤ 1000000) (hbase : base ≤ w.heap.size) :
    ∃ v' w', (Builtin.append_ #[42, 42] ty #[v, .slice (some ⟨g, 0, none⟩) 1 1]).run Tryd.prog w = .ok v' w' ∧ w'.ownsRow base 3 1 v' (ws ++ [x]).length ((ws ++ [x]).map iw) ∧ w.grownBy w' v.ownBlock := by
  obtain ⟨i, hi, hz, hsz, hby⟩ := info_parts info3
  obtain ⟨v', w', hr, ho, hg, _⟩ := run_append_own (P := Tryd.prog) w base 42 ty 3 i (.int .i64 0) 1 8 Tryd.underlying42 hi hz hsz hby rfl (by decide) v ws.length _ hown ⟨g, 0, none⟩ 1 1 [iw x] (by simp)
    (by
      intro j u hj
      obtain rfl : j = 0 := by
        have := (List.getElem?_eq_some_iff.1 hj).1
        simpa using this
      simp at hj
      subst hj
      exact hu)
    (by simp [iw, Value.oneCell']) (by unfold maxLen; omega) (by omega) hbase
  exact ⟨v', w', hr, by simpa using ho, hg⟩

theorem wpList_append_word (w : World) {ops : Array Oper} {rest : List Oper} {o : Oper} {a : Act} {Q : Exit → Act → World → Prop} (hgd : o.guard = none) (s y : Operand)
    (ho : o.op = .call { callee := .builtin .append, args := #[s, y], argTypes := #[42, 42] })
    (base : Nat) (v : Value) (ws : List (BitVec 32)) (g : Nat) (x : BitVec 32) (hs : a.eval s = v) (hx : a.eval y = .slice (some ⟨g, 0, none⟩) 1 1) (hown : w.ownsRow base 3 1 v ws.length (ws.map iw)) (hu : w.cell? ⟨g, 0, none⟩ = some (.int .i64 (uw x)))
    (hlen : ws.length ≤ 1000000) (hbase : base ≤ w.heap.size)
    (h : ∀ v' w', w'.ownsRow base 3 1 v' (ws ++ [x]).length ((ws ++ [x]).map iw) → w.grownBy w' v.ownBlock → wpList Tryd.prog ops Q rest (a.put o.dst v') w') : wpList Tryd.prog ops Q (o :: rest) a w := by
  refine wpList_plain hgd fun K hK => ?_
  obtain ⟨v', w', hrun, r1, r2⟩ := run_append_word w base o.type v ws hown g x hu hlen hbase
  unfold Oper.wp execOp
  simp only [ho, resolve, invoke, builtin, Sem.run_bind, Sem.run_pure, Result.andThen_ok, List.map_toArray, List.map_cons, List.map_nil, hs, hx, hrun]
  exact hK _ _ (h v' w' r1 r2)
end Go.Proofs.YtpoaabjpeigooaaDoor
/-
  The walks of the document's own quarter.
-/
namespace Go.Proofs.YtpoaabjpeigooaaDoor
open Go.RowKit

theorem rotl_rotr (x : BitVec 32) (n : Nat) (h0 : 1 ≤ n) (h1 : n ≤ 31) : x.rotateRight (32 - n) = x.rotateLeft n := by
  rw [BitVec.rotateRight_def, BitVec.rotateLeft_def, Nat.mod_eq_of_lt (by omega : 32 - n < 32), Nat.mod_eq_of_lt (by omega : n < 32), show 32 - (32 - n) = n by omega, BitVec.or_comm]

theorem left_any (v : Int) (x : BitVec 32) (hv : v = uw x) (k : Int) (n : Nat) (hk : k = (n : Int)) (w : World) (h0 : 1 ≤ n) (h1 : n ≤ 31) :
    Calls Tryd.prog 78 #[.int .i64 v, .int .i64 k] w fun e w' => e = .returned (.int .i64 (uw (x.rotateLeft n))) ∧ ∃ m, w' = w.drewN m := by
  subst hv
  subst hk
  have h2 : (32 : Int) - (n : Int) = ((32 - n : Nat) : Int) := by omega
  go_enter Tryd.func78, Tryd.ntmps78
  go_wp2_with fail
  refine (turned_any x (32 - n) w (by omega) (by omega)).mono ?_
  rintro e w1 ⟨rfl, m, rfl⟩
  rw [rotl_rotr x n h0 h1]
  go_wp2
  go_ret
  exact ⟨rfl, m, rfl⟩

theorem word_at (m : Int) (x : BitVec 32) (hm : m % 4294967296 = uw x) (w : World) (h0 : 0 ≤ m) (h1 : m ≤ 9223372036854775807) :
    Calls Tryd.prog 66 #[.int .i64 m] w fun e w' => e = .returned (.int .i64 (uw x)) ∧ w' = w := by
  rw [← hm]
  exact word32_any m w h0 h1

/-- a region that may be walked in several orders, all of which end alike: what follows is walked once -/
theorem region_merge {P : Program} {id : Nat} {ops : Array Oper} {K : Act → World → Prop} {Q : Exit → Act → World → Prop} {a : Act} {w : World} (R : World → Prop) {A : Act}
    (hreg : ∀ K' : Act → World → Prop, Hid (∀ W2, R W2 → K' A W2) → (Code.region id ops true).wp P (Exit.then K' Q) a w) (hrest : ∀ W2, R W2 → K A W2) : (Code.region id ops true).wp P (Exit.then K Q) a w := hreg K hrest

/-- the words ws stand at the head of the row g -/
structure WRow (w : World) (g cap : Nat) (ws : List (BitVec 32)) : Prop where
  ex : ∃ cur, w.heap[g]? = some (.cells cur 3 (0, 0)) ∧ cur.size = cap ∧ ws.length ≤ cap ∧ cur.toList.take ws.length = ws.map iw

theorem WRow.cell {w : World} {g cap : Nat} {ws : List (BitVec 32)} (h : WRow w g cap ws) (i : Nat) (hi : i < ws.length) : w.cell? ⟨g, i, none⟩ = some (.int .i64 (uw (ws.getD i 0#32))) := by
  obtain ⟨cur, hg, hs, hc, ht⟩ := h.ex
  rw [cell_of_row w _ i _ _ _ hg]
  have h1 : (cur.toList.take ws.length)[i]? = (ws.map iw)[i]? := by rw [ht]
  rw [List.getElem?_take, if_pos hi, List.getElem?_map, List.getElem?_eq_getElem hi] at h1
  rw [Array.getElem?_toList] at h1
  rw [h1]
  simp [iw, List.getD, List.getElem?_eq_getElem hi]
theorem WRow.frozen {w : World} {g cap : Nat} {ws : List (BitVec 32)} (h : WRow w g cap ws) (i : Nat) : w.frozen? ⟨g, i, none⟩ = false := by
  obtain ⟨cur, hg, _⟩ := h.ex
  exact frozen_of_row w _ i _ _ hg
theorem WRow.lt {w : World} {g cap : Nat} {ws : List (BitVec 32)} (h : WRow w g cap ws) : g < w.heap.size := by
  obtain ⟨cur, hg, _⟩ := h.ex
  exact (Array.getElem?_eq_some_iff.1 hg).1
theorem WRow.set {w : World} {g cap : Nat} {ws : List (BitVec 32)} (h : WRow w g cap ws) (i : Nat) (_hi : i < ws.length) (x : BitVec 32) : WRow (w.setCell ⟨g, i, none⟩ (.int .i64 (uw x))) g cap (ws.set i x) := by
  obtain ⟨cur, hg, hs, hc, ht⟩ := h.ex
  refine ⟨cur.setIfInBounds i (iw x), ?_, by simp [hs], by simpa using hc, ?_⟩
  · rw [heap_setCell_same _ _ _ _ _ _ hg]; rfl
  · rw [Array.toList_setIfInBounds, List.length_set, List.take_set, ht, List.map_set]
theorem WRow.drewN {w : World} {g cap : Nat} {ws : List (BitVec 32)} (h : WRow w g cap ws) (n : Nat) : WRow (w.drewN n) g cap ws := ⟨h.ex⟩
theorem WRow.drew {w : World} {g cap : Nat} {ws : List (BitVec 32)} (h : WRow w g cap ws) : WRow w.drew g cap ws := ⟨h.ex⟩
theorem WRow.wl {w : World} {g cap : Nat} {ws : List (BitVec 32)} (h : WRow w g cap ws) {n : Nat} (hn : ws.length = n) : Wl w (.slice (some ⟨g, 0, none⟩) n cap) ws := by
  subst hn
  obtain ⟨cur, hg, hs, hc, ht⟩ := h.ex
  exact ⟨g, cap, rfl, h.lt, hc, fun i hi => h.cell i hi⟩
theorem WRow.ofOwns {w : World} {base : Nat} {v : Value} {ws : List (BitVec 32)} (h : w.ownsRow base 3 1 v ws.length (ws.map iw)) (hne : 0 < ws.length) : ∃ g cap, v = .slice (some ⟨g, 0, none⟩) ws.length cap ∧ base ≤ g ∧ WRow w g cap ws := by
  rcases h.2 with ⟨rfl, h0⟩ | ⟨g, cap, cur, rfl, hb, hg, hn, _, hcs, ht⟩
  · omega
  · refine ⟨g, cap, rfl, hb, ⟨cur, hg, by omega, hn, ?_⟩⟩
    rwa [Nat.mul_one] at ht

set_option maxHeartbeats 4000000 in
set_option maxRecDepth 100000 in
theorem quartered_any (vs : Value) (ws : List (BitVec 32)) (a b c d : Nat) (w : World) (h : Wl w vs ws) (hl : ws.length = 16) (ha : a < 16) (hb : b < 16) (hc : c < 16) (hd : d < 16) :
    Calls Tryd.prog 65 #[vs, .int .i64 a, .int .i64 b, .int .i64 c, .int .i64 d] w fun e w' => ∃ v', e = .returned v' ∧ Wl w' v' (quartL ws a b c d) ∧ Below w.heap.size w w' := by
  obtain ⟨gs, caps, rfl, hgs, hcs, hcell⟩ := h.ex
  rw [hl] at hcs hcell ⊢
  have HC : Hid _ := hcell
  have HL : Hid (ws.length = 16) := hl
  clear h hcell hl
  go_enter Tryd.func65, Tryd.ntmps65
  go_wp2_with fail
  go_loopw [11, 12] (fun v i wr => ∃ k : Nat, k ≤ 16 ∧ i = .int .i64 k ∧ wr.ownsRow w.heap.size 3 1 v (ws.take k).length ((ws.take k).map iw) ∧ Below w.heap.size w wr) (fun _ i _ => 16 - (intOf i).toNat)
  case atStart => exact ⟨0, by omega, rfl, World.ownsRow_nil _ _ _ _, Below.refl _ _⟩
  case round =>
    obtain ⟨k, hk, rfl, hown, hbel⟩ := hrel
    by_cases hk16 : k < 16
    · have hk16i : (k : Int) < 16 := by omega
      have hlt := hown.lt
      have ck := (hbel.cell (p := ⟨gs, k, none⟩) hgs).trans (HC.out k hk16)
      have HT : Hid (ws.take (k + 1) = ws.take k ++ [ws.getD k 0#32]) := by
        unfold Hid
        rw [List.take_succ_eq_append_getElem (by rw [HL.out]; exact hk16)]
        simp [List.getD, List.getElem?_eq_getElem (show k < ws.length by rw [HL.out]; exact hk16)]
      have hpl : (ws.take k).length ≤ 16 := by rw [List.length_take]; omega
      generalize ws.take k = pre at hown HT hpl
      generalize ws.getD k 0#32 = x at ck HT
      go_wp2_with (at_builtin; refine wpList_append_word _ rfl _ _ rfl w.heap.size _ pre wr.heap.size x rfl rfl (hown.alloc _) (by simp) (by omega) (by have := hbel.size; simp; omega) ?_)
      intro v' w' ho hg
      have ho' : w'.ownsRow w.heap.size 3 1 v' (pre ++ [x]).length ((pre ++ [x]).map iw) := by simpa using ho
      have hb' : Below w.heap.size w w' := (hbel.alloc hbel.size _).grown hg (by have := hbel.size; simp; omega) (fun k hk => (hlt k hk).1)
      clear ho hg hown hlt hbel
      go_wp2
      go_roundw
      case rel => exact ⟨k + 1, by omega, by go_num, by rw [HT.out]; exact ho', hb'⟩
      case measure => simp [intOf]; omega
    · have hk16i : ¬ (k : Int) < 16 := by omega
      have HK : Hid (ws.take k = ws) := by unfold Hid; rw [List.take_of_length_le (by rw [HL.out]; omega)]
      rw [HK.out] at hown
      obtain ⟨g, cap, hv, hgB, hrow⟩ := WRow.ofOwns hown (by rw [HL.out]; omega)
      rw [HL.out] at hv
      subst hv
      clear hown HC hgs hcs HK
      have hia : (0 : Int) ≤ (a : Int) := by omega
      have hib : (0 : Int) ≤ (b : Int) := by omega
      have hic : (0 : Int) ≤ (c : Int) := by omega
      have hid : (0 : Int) ≤ (d : Int) := by omega
      have hja : (a : Int) < 16 := by omega
      have hjb : (b : Int) < 16 := by omega
      have hjc : (c : Int) < 16 := by omega
      have hjd : (d : Int) < 16 := by omega
      have hl0 : ws.length = 16 := HL.out
      have HE0 : Hid (quartL ws a b c d = gro2 (gro1 (gro2 (gro1 (gro2 (gro1 (gro2 (gro1 ws a b) a d 16) c d) c b 12) a b) a d 8) c d) c b 7) := rfl
      generalize hqq : quartL ws a b c d = QQ at HE0
      have HQQ : Hid (quartL ws a b c d = QQ) := hqq
      clear hqq
      have r0 := hrow
      have e0 := hbel
      clear hrow hbel HL
      generalize ws = v0 at r0 hl0 HE0
      -- 0: the word at a grows by that at b
      have hl1 : (gro1 v0 a b).length = 16 := by rw [gro1_length]; exact hl0
      have HS0 : Hid (gro1 v0 a b = v0.set a (v0.getD a 0#32 + v0.getD b 0#32)) := rfl
      have HR0 : Hid (WRow _ g cap v0) := r0
      have HL0 : Hid (v0.length = 16) := hl0
      have cp := r0.cell a (by omega)
      have cq := r0.cell b (by omega)
      have fp := r0.frozen a
      clear r0 hl0
      generalize v0.getD a 0#32 = x0 at cp HS0
      generalize v0.getD b 0#32 = y0 at cq HS0
      have xl := uw_lo x0
      have xh := uw_hi x0
      have yl := uw_lo y0
      have yh := uw_hi y0
      go_wp2_with fail
      refine wp_region_quiet_tail 13 (by kernel_rfl) (by kernel_rfl) ?_
      simp only [List.take_succ_cons, List.take_zero, List.drop_succ_cons, List.drop_zero]
      repeat (go_big_quiet_step (fail))
      go_big_quiet_want
      go_big_quiet_op
      refine ⟨_, word_at _ (x0 + y0) (uw_sum2 _ _) _ (by omega) (by omega), ?_⟩
      go_big_quiet_on
      repeat (go_big_quiet_step (fail))
      refine wpQuiet_nil ?_
      go_wp2_with fail
      generalize hW : World.drew (World.setCell _ _ _) = W1
      have r1 : WRow W1 g cap (gro1 v0 a b) := by rw [← hW, HS0.out]; exact (HR0.out.set a (by rw [HL0.out]; exact ha) _).drew
      have e1 : Below w.heap.size w W1 := by rw [← hW]; exact (e0.setCell (p := ⟨g, a, none⟩) hgB _).drew
      clear hW HS0 HR0 HL0 cp cq fp xl xh yl yh e0
      generalize gro1 v0 a b = v1 at r1 hl1 HE0
      -- 1: the word at d is mixed with that at a and turned left by 16
      have hl2 : (gro2 v1 a d 16).length = 16 := by rw [gro2_length]; exact hl1
      have HS1 : Hid (gro2 v1 a d 16 = v1.set d ((v1.getD d 0#32 ^^^ v1.getD a 0#32).rotateLeft 16)) := rfl
      have HR1 : Hid (WRow _ g cap v1) := r1
      have HL1 : Hid (v1.length = 16) := hl1
      have HE2 : Hid (Below w.heap.size w _) := e1
      have cp := r1.cell a (by omega)
      have cq := r1.cell d (by omega)
      have fq := r1.frozen d
      clear r1 hl1 e1
      generalize v1.getD a 0#32 = x1 at cp HS1
      generalize v1.getD d 0#32 = y1 at cq HS1
      go_wp2_with fail
      apply region_merge (fun W2 => WRow W2 g cap (gro2 v1 a d 16) ∧ Below w.heap.size w W2)
      · intro Q2 HQ2
        go_region_with (go_at_call 78; refine (left_any _ (y1 ^^^ x1) (uw_xor64 y1 x1) _ 16 rfl _ (by omega) (by omega)).mono ?_; rintro e w' ⟨rfl, m, rfl⟩)
        all_goals exact HQ2.out _ ⟨by rw [HS1.out]; exact (HR1.out.drewN _).set d (by rw [HL1.out]; exact hd) _, (below_drewN HE2.out _).setCell (p := ⟨g, d, none⟩) hgB _⟩
      rintro W2 ⟨r2, e2⟩
      clear HS1 HR1 HL1 HE2 cp cq fq
      generalize gro2 v1 a d 16 = v2 at r2 hl2 HE0
      -- 2: the word at c grows by that at d
      have hl3 : (gro1 v2 c d).length = 16 := by rw [gro1_length]; exact hl2
      have HS2 : Hid (gro1 v2 c d = v2.set c (v2.getD c 0#32 + v2.getD d 0#32)) := rfl
      have HR2 : Hid (WRow _ g cap v2) := r2
      have HL2 : Hid (v2.length = 16) := hl2
      have cp := r2.cell c (by omega)
      have cq := r2.cell d (by omega)
      have fp := r2.frozen c
      clear r2 hl2
      generalize v2.getD c 0#32 = x2 at cp HS2
      generalize v2.getD d 0#32 = y2 at cq HS2
      have xl := uw_lo x2
      have xh := uw_hi x2
      have yl := uw_lo y2
      have yh := uw_hi y2
      go_wp2_with fail
      refine wp_region_quiet_tail 13 (by kernel_rfl) (by kernel_rfl) ?_
      simp only [List.take_succ_cons, List.take_zero, List.drop_succ_cons, List.drop_zero]
      repeat (go_big_quiet_step (fail))
      go_big_quiet_want
      go_big_quiet_op
      refine ⟨_, word_at _ (x2 + y2) (uw_sum2 _ _) _ (by omega) (by omega), ?_⟩
      go_big_quiet_on
      repeat (go_big_quiet_step (fail))
      refine wpQuiet_nil ?_
      go_wp2_with fail
      generalize hW : World.drew (World.setCell _ _ _) = W3
      have r3 : WRow W3 g cap (gro1 v2 c d) := by rw [← hW, HS2.out]; exact (HR2.out.set c (by rw [HL2.out]; exact hc) _).drew
      have e3 : Below w.heap.size w W3 := by rw [← hW]; exact (e2.setCell (p := ⟨g, c, none⟩) hgB _).drew
      clear hW HS2 HR2 HL2 cp cq fp xl xh yl yh e2
      generalize gro1 v2 c d = v3 at r3 hl3 HE0
      -- 3: the word at b is mixed with that at c and turned left by 12
      have hl4 : (gro2 v3 c b 12).length = 16 := by rw [gro2_length]; exact hl3
      have HS3 : Hid (gro2 v3 c b 12 = v3.set b ((v3.getD b 0#32 ^^^ v3.getD c 0#32).rotateLeft 12)) := rfl
      have HR3 : Hid (WRow _ g cap v3) := r3
      have HL3 : Hid (v3.length = 16) := hl3
      have HE4 : Hid (Below w.heap.size w _) := e3
      have cp := r3.cell c (by omega)
      have cq := r3.cell b (by omega)
      have fq := r3.frozen b
      clear r3 hl3 e3
      generalize v3.getD c 0#32 = x3 at cp HS3
      generalize v3.getD b 0#32 = y3 at cq HS3
      go_wp2_with fail
      apply region_merge (fun W2 => WRow W2 g cap (gro2 v3 c b 12) ∧ Below w.heap.size w W2)
      · intro Q2 HQ2
        go_region_with (go_at_call 78; refine (left_any _ (y3 ^^^ x3) (uw_xor64 y3 x3) _ 12 rfl _ (by omega) (by omega)).mono ?_; rintro e w' ⟨rfl, m, rfl⟩)
        all_goals exact HQ2.out _ ⟨by rw [HS3.out]; exact (HR3.out.drewN _).set b (by rw [HL3.out]; exact hb) _, (below_drewN HE4.out _).setCell (p := ⟨g, b, none⟩) hgB _⟩
      rintro W4 ⟨r4, e4⟩
      clear HS3 HR3 HL3 HE4 cp cq fq
      generalize gro2 v3 c b 12 = v4 at r4 hl4 HE0
      -- 4: the word at a grows by that at b
      have hl5 : (gro1 v4 a b).length = 16 := by rw [gro1_length]; exact hl4
      have HS4 : Hid (gro1 v4 a b = v4.set a (v4.getD a 0#32 + v4.getD b 0#32)) := rfl
      have HR4 : Hid (WRow _ g cap v4) := r4
      have HL4 : Hid (v4.length = 16) := hl4
      have cp := r4.cell a (by omega)
      have cq := r4.cell b (by omega)
      have fp := r4.frozen a
      clear r4 hl4
      generalize v4.getD a 0#32 = x4 at cp HS4
      generalize v4.getD b 0#32 = y4 at cq HS4
      have xl := uw_lo x4
      have xh := uw_hi x4
      have yl := uw_lo y4
      have yh := uw_hi y4
      go_wp2_with fail
      refine wp_region_quiet_tail 13 (by kernel_rfl) (by kernel_rfl) ?_
      simp only [List.take_succ_cons, List.take_zero, List.drop_succ_cons, List.drop_zero]
      repeat (go_big_quiet_step (fail))
      go_big_quiet_want
      go_big_quiet_op
      refine ⟨_, word_at _ (x4 + y4) (uw_sum2 _ _) _ (by omega) (by omega), ?_⟩
      go_big_quiet_on
      repeat (go_big_quiet_step (fail))
      refine wpQuiet_nil ?_
      go_wp2_with fail
      generalize hW : World.drew (World.setCell _ _ _) = W5
      have r5 : WRow W5 g cap (gro1 v4 a b) := by rw [← hW, HS4.out]; exact (HR4.out.set a (by rw [HL4.out]; exact ha) _).drew
      have e5 : Below w.heap.size w W5 := by rw [← hW]; exact (e4.setCell (p := ⟨g, a, none⟩) hgB _).drew
      clear hW HS4 HR4 HL4 cp cq fp xl xh yl yh e4
      generalize gro1 v4 a b = v5 at r5 hl5 HE0
      -- 5: the word at d is mixed with that at a and turned left by 8
      have hl6 : (gro2 v5 a d 8).length = 16 := by rw [gro2_length]; exact hl5
      have HS5 : Hid (gro2 v5 a d 8 = v5.set d ((v5.getD d 0#32 ^^^ v5.getD a 0#32).rotateLeft 8)) := rfl
      have HR5 : Hid (WRow _ g cap v5) := r5
      have HL5 : Hid (v5.length = 16) := hl5
      have HE6 : Hid (Below w.heap.size w _) := e5
      have cp := r5.cell a (by omega)
      have cq := r5.cell d (by omega)
      have fq := r5.frozen d
      clear r5 hl5 e5
      generalize v5.getD a 0#32 = x5 at cp HS5
      generalize v5.getD d 0#32 = y5 at cq HS5
      go_wp2_with fail
      apply region_merge (fun W2 => WRow W2 g cap (gro2 v5 a d 8) ∧ Below w.heap.size w W2)
      · intro Q2 HQ2
        go_region_with (go_at_call 78; refine (left_any _ (y5 ^^^ x5) (uw_xor64 y5 x5) _ 8 rfl _ (by omega) (by omega)).mono ?_; rintro e w' ⟨rfl, m, rfl⟩)
        all_goals exact HQ2.out _ ⟨by rw [HS5.out]; exact (HR5.out.drewN _).set d (by rw [HL5.out]; exact hd) _, (below_drewN HE6.out _).setCell (p := ⟨g, d, none⟩) hgB _⟩
      rintro W6 ⟨r6, e6⟩
      clear HS5 HR5 HL5 HE6 cp cq fq
      generalize gro2 v5 a d 8 = v6 at r6 hl6 HE0
      -- 6: the word at c grows by that at d
      have hl7 : (gro1 v6 c d).length = 16 := by rw [gro1_length]; exact hl6
      have HS6 : Hid (gro1 v6 c d = v6.set c (v6.getD c 0#32 + v6.getD d 0#32)) := rfl
      have HR6 : Hid (WRow _ g cap v6) := r6
      have HL6 : Hid (v6.length = 16) := hl6
      have cp := r6.cell c (by omega)
      have cq := r6.cell d (by omega)
      have fp := r6.frozen c
      clear r6 hl6
      generalize v6.getD c 0#32 = x6 at cp HS6
      generalize v6.getD d 0#32 = y6 at cq HS6
      have xl := uw_lo x6
      have xh := uw_hi x6
      have yl := uw_lo y6
      have yh := uw_hi y6
      go_wp2_with fail
      refine wp_region_quiet_tail 13 (by kernel_rfl) (by kernel_rfl) ?_
      simp only [List.take_succ_cons, List.take_zero, List.drop_succ_cons, List.drop_zero]
      repeat (go_big_quiet_step (fail))
      go_big_quiet_want
      go_big_quiet_op
      refine ⟨_, word_at _ (x6 + y6) (uw_sum2 _ _) _ (by omega) (by omega), ?_⟩
      go_big_quiet_on
      repeat (go_big_quiet_step (fail))
      refine wpQuiet_nil ?_
      go_wp2_with fail
      generalize hW : World.drew (World.setCell _ _ _) = W7
      have r7 : WRow W7 g cap (gro1 v6 c d) := by rw [← hW, HS6.out]; exact (HR6.out.set c (by rw [HL6.out]; exact hc) _).drew
      have e7 : Below w.heap.size w W7 := by rw [← hW]; exact (e6.setCell (p := ⟨g, c, none⟩) hgB _).drew
      clear hW HS6 HR6 HL6 cp cq fp xl xh yl yh e6
      generalize gro1 v6 c d = v7 at r7 hl7 HE0
      -- 7: the word at b is mixed with that at c and turned left by 7
      have hl8 : (gro2 v7 c b 7).length = 16 := by rw [gro2_length]; exact hl7
      have HS7 : Hid (gro2 v7 c b 7 = v7.set b ((v7.getD b 0#32 ^^^ v7.getD c 0#32).rotateLeft 7)) := rfl
      have HR7 : Hid (WRow _ g cap v7) := r7
      have HL7 : Hid (v7.length = 16) := hl7
      have HE8 : Hid (Below w.heap.size w _) := e7
      have cp := r7.cell c (by omega)
      have cq := r7.cell b (by omega)
      have fq := r7.frozen b
      clear r7 hl7 e7
      generalize v7.getD c 0#32 = x7 at cp HS7
      generalize v7.getD b 0#32 = y7 at cq HS7
      go_wp2_with fail
      apply region_merge (fun W2 => WRow W2 g cap (gro2 v7 c b 7) ∧ Below w.heap.size w W2)
      · intro Q2 HQ2
        go_region_with (go_at_call 78; refine (left_any _ (y7 ^^^ x7) (uw_xor64 y7 x7) _ 7 rfl _ (by omega) (by omega)).mono ?_; rintro e w' ⟨rfl, m, rfl⟩)
        all_goals exact HQ2.out _ ⟨by rw [HS7.out]; exact (HR7.out.drewN _).set b (by rw [HL7.out]; exact hb) _, (below_drewN HE8.out _).setCell (p := ⟨g, b, none⟩) hgB _⟩
      rintro W8 ⟨r8, e8⟩
      clear HS7 HR7 HL7 HE8 cp cq fq
      generalize gro2 v7 c b 7 = v8 at r8 hl8 HE0
      go_wp2
      go_ret
      refine ⟨_, rfl, ?_, e8⟩
      rw [HQQ.out, HE0.out]
      exact r8.wl hl8
end Go.Proofs.YtpoaabjpeigooaaDoor
/-
  The walks of the document's own block of the stream.
-/
namespace Go.Proofs.YtpoaabjpeigooaaDoor
open Go.RowKit

theorem wordU_sum (a b c d : BitVec 32) (ha : uw a < 256) (hb : uw b < 256) (hc : uw c < 256) (hd : uw d < 256) : uw a + 256 * uw b + 65536 * uw c + 16777216 * uw d = uw (a ||| b <<< 8 ||| c <<< 16 ||| d <<< 24) := by
  have h1 := (shl_byte' b hb).2.2
  have h2 := (shl_byte' c hc).2.1
  have h3 := (shl_byte' d hd).1
  unfold uw at *
  rw [BitVec.toNat_or, BitVec.toNat_or, BitVec.toNat_or]
  generalize (b <<< 8).toNat = B at *
  generalize (c <<< 16).toNat = C at *
  generalize (d <<< 24).toNat = D at *
  generalize a.toNat = a' at *
  generalize b.toNat = b' at *
  generalize c.toNat = c' at *
  generalize d.toNat = d' at *
  rw [Nat.or_comm a' B, nat_join 8 B a' (by omega) (by omega), Nat.or_comm (B + a') C, nat_join 16 C (B + a') (by omega) (by omega), Nat.or_comm (C + (B + a')) D, nat_join 24 D (C + (B + a')) (by omega) (by omega)]
  omega

set_option maxHeartbeats 1000000 in
set_option maxRecDepth 100000 in
theorem fourLow_any (v : Value) (l : List Int) (x : Int) (k : Nat) (hx : x = 4 * (k : Int)) (w : World) (h : Sl w v l) (hk : 4 * k + 4 ≤ l.length) (hl : l.length ≤ 100000) :
    Calls Tryd.prog 64 #[v, .int .i64 x] w fun e w' => e = .returned (.int .i64 (uw (wordU l k))) ∧ ∃ m, w' = w.drewN m := by
  subst hx
  obtain ⟨⟨a, cap, rfl, hc, hn, h1⟩, hla, hba⟩ := h
  rcases h1 with rfl | ⟨b, o, rfl, hb, hcell⟩
  · simp at hk
  have HC : Hid (∀ i, i < l.length → w.cell? ⟨b, o + i, none⟩ = some (.int .u8 (uw (byteW (l.getD i 0))))) := fun i hi => by rw [uw_byte _ (getD_byte hba i)]; exact hcell i hi
  have HB : Hid (∀ i, uw (byteW (l.getD i 0)) < 256) := fun i => by rw [uw_byte _ (getD_byte hba i)]; exact (getD_byte hba i).2
  have c0 := HC.out (4 * k) (by omega)
  have c1 := HC.out (4 * k + 1) (by omega)
  have c2 := HC.out (4 * k + 2) (by omega)
  have c3 := HC.out (4 * k + 3) (by omega)
  have l0 := HB.out (4 * k)
  have l1 := HB.out (4 * k + 1)
  have l2 := HB.out (4 * k + 2)
  have l3 := HB.out (4 * k + 3)
  have HW : Hid (wordU l k = byteW (l.getD (4 * k) 0) ||| byteW (l.getD (4 * k + 1) 0) <<< 8 ||| byteW (l.getD (4 * k + 2) 0) <<< 16 ||| byteW (l.getD (4 * k + 3) 0) <<< 24) := rfl
  generalize byteW (l.getD (4 * k) 0) = x0 at c0 l0 HW
  generalize byteW (l.getD (4 * k + 1) 0) = x1 at c1 l1 HW
  generalize byteW (l.getD (4 * k + 2) 0) = x2 at c2 l2 HW
  generalize byteW (l.getD (4 * k + 3) 0) = x3 at c3 l3 HW
  have z0 := uw_lo x0
  have z1 := uw_lo x1
  have z2 := uw_lo x2
  have z3 := uw_lo x3
  have HS : Hid _ := wordU_sum x0 x1 x2 x3 l0 l1 l2 l3
  clear HC HB hcell hba
  generalize l.length = n at *
  go_enter Tryd.func64, Tryd.ntmps64
  go_wp2_with fail
  go_quiet (fail)
  go_wp2
  go_ret
  exact ⟨ret_int (by rw [HW.out, ← HS.out]; omega), _, rfl⟩

theorem in_any (n lo hi : Int) (w : World) :
    Calls Tryd.prog 39 #[.int .i64 n, .int .i64 lo, .int .i64 hi] w fun e w' => e = .returned (.bool (decide (lo ≤ n ∧ n ≤ hi))) ∧ w' = w := by
  go_enter Tryd.func39, Tryd.ntmps39
  by_cases h1 : lo ≤ n
  · by_cases h2 : n ≤ hi
    · go_wp2
      go_ret
      exact ⟨ret_bool (decide_eq_true ⟨h1, h2⟩).symm, rfl⟩
    · go_wp2
      go_ret
      exact ⟨ret_bool (decide_eq_false (by omega)).symm, rfl⟩
  · go_wp2
    go_ret
    exact ⟨ret_bool (by rw [show decide (lo ≤ n) = false from decide_eq_false (by omega)]; rfl), rfl⟩

theorem fault_any (vk vn : Value) (key nonce : List Int) (c : Int) (w : World) (hk : Sl w vk key) (hn : Sl w vn nonce) :
    Calls Tryd.prog 52 #[vk, .int .i64 c, vn] w fun e w' => e = .returned (.int .i64 (chaErr key nonce c)) ∧ w' = w := by
  obtain ⟨⟨ak, ck, rfl, _, _, _⟩, lk, _⟩ := hk
  obtain ⟨⟨an, cn, rfl, _, _, _⟩, ln, _⟩ := hn
  have H1 : Hid (key.length ≠ 32 ∨ nonce.length ≠ 12 → chaErr key nonce c = 1) := chaErr_size
  have H2 : Hid (key.length = 32 → nonce.length = 12 → (c < 0 ∨ 1073741824 < c) → chaErr key nonce c = 2) := chaErr_range
  have H3 : Hid (key.length = 32 → nonce.length = 12 → (0 ≤ c ∧ c ≤ 1073741824) → chaErr key nonce c = 0) := chaErr_ok
  generalize chaErr key nonce c = E at H1 H2 H3 ⊢
  generalize key.length = n at *
  generalize nonce.length = m at *
  go_enter Tryd.func52, Tryd.ntmps52
  by_cases h1 : (n : Int) = 32
  · by_cases h2 : (m : Int) = 12
    · go_wp2_with fail
      refine (in_any c 0 1073741824 w).mono ?_
      rintro e w1 ⟨rfl, rfl⟩
      by_cases h3 : 0 ≤ c ∧ c ≤ 1073741824
      · rw [decide_eq_true h3]
        go_wp2
        go_ret
        exact ⟨by rw [H3.out (by omega) (by omega) (by omega)]; rfl, rfl⟩
      · rw [decide_eq_false h3]
        go_wp2
        go_ret
        exact ⟨by rw [H2.out (by omega) (by omega) (by omega)]; rfl, rfl⟩
    · go_wp2
      go_ret
      exact ⟨by rw [H1.out (by omega)]; rfl, rfl⟩
  · go_wp2
    go_ret
    exact ⟨by rw [H1.out (by omega)]; rfl, rfl⟩

/-- a new row of words -/
theorem owns_built (w : World) (ws : List (BitVec 32)) {n : Nat} (hn : ws.length = n) (hl : n ≤ 1000) : (w.alloc (.cells (ws.map iw).toArray 3)).ownsRow w.heap.size 3 1 (.slice (some ⟨w.heap.size, 0, none⟩) n n) ws.length (ws.map iw) := by
  subst hn
  refine ⟨by simp, .inr ⟨w.heap.size, ws.length, (ws.map iw).toArray, rfl, Nat.le_refl _, heap_alloc_new _ _, Nat.le_refl _, by unfold maxLen; omega, by simp, ?_⟩⟩
  rw [Nat.mul_one, List.take_of_length_le (by simp)]

/-- words more behind a row of words of the call's own -/
theorem wpList_append_words (w : World) {ops : Array Oper} {rest : List Oper} {o : Oper} {a : Act} {Q : Exit → Act → World → Prop} (hgd : o.guard = none) (s y : Operand)
    (ho : o.op = .call { callee := .builtin .append, args := #[s, y], argTypes := #[42, 42] })
    (base : Nat) (v : Value) (ws xs : List (BitVec 32)) (g n : Nat) (hs : a.eval s = v) (hx : a.eval y = .slice (some ⟨g, 0, none⟩) n n) (hxs : xs.length = n) (hown : w.ownsRow base 3 1 v ws.length (ws.map iw)) (hu : ∀ i, i < n → w.cell? ⟨g, i, none⟩ = some (iw (xs.getD i 0#32)))
    (hlen : ws.length + xs.length ≤ 1000000) (hbase : base ≤ w.heap.size)
    (h : ∀ v' w', w'.ownsRow base 3 1 v' (ws ++ xs).length ((ws ++ xs).map iw) → w.grownBy w' v.ownBlock → wpList Tryd.prog ops Q rest (a.put o.dst v') w') : wpList Tryd.prog ops Q (o :: rest) a w := by
  refine wpList_plain hgd fun K hK => ?_
  obtain ⟨i, hi, hz, hsz, hby⟩ := info_parts info3
  subst hxs
  obtain ⟨v', w', hrun, r1, r2, _⟩ := run_append_own (P := Tryd.prog) w base 42 o.type 3 i (.int .i64 0) 1 8 Tryd.underlying42 hi hz hsz hby rfl (by decide) v ws.length _ hown ⟨g, 0, none⟩ xs.length xs.length (xs.map iw) (by simp)
    (by
      intro j u hj
      have hjl : j < xs.length := by
        have := (List.getElem?_eq_some_iff.1 hj).1
        simpa using this
      have hadd : (⟨g, 0, none⟩ : Addr).add j = ⟨g, j, none⟩ := by unfold Addr.add; split <;> simp_all
      rw [hadd, hu j hjl]
      simp [List.getElem?_eq_getElem hjl] at hj
      rw [← hj]
      simp [List.getD, List.getElem?_eq_getElem hjl])
    (by
      intro u hu
      obtain ⟨x, _, rfl⟩ := List.mem_map.1 hu
      rfl) (by unfold maxLen; omega) (by omega) hbase
  have r1' : w'.ownsRow base 3 1 v' (ws ++ xs).length ((ws ++ xs).map iw) := by simpa using r1
  unfold Oper.wp execOp
  simp only [ho, resolve, invoke, builtin, Sem.run_bind, Sem.run_pure, Result.andThen_ok, List.map_toArray, List.map_cons, List.map_nil, hs, hx, hrun]
  exact hK _ _ (h v' w' r1' r2)

def sig4 : List (BitVec 32) := [1634760805#32, 857760878#32, 2036477234#32, 1797285236#32]
/-- the state as far as k words of the key -/
def sBeg (key : List Int) : Nat → List (BitVec 32)
  | 0 => sig4
  | k + 1 => sBeg key k ++ [wordU key k]
theorem sBeg_length (key : List Int) (k : Nat) : (sBeg key k).length = 4 + k := by
  induction k with
  | zero => rfl
  | succ k ih => simp [sBeg, ih]; omega
theorem sBeg_all (key nonce : List Int) (c : BitVec 32) : sBeg key 8 ++ [c, wordU nonce 0, wordU nonce 1, wordU nonce 2] = begunL key c nonce := rfl
theorem turns_eight (us : List (BitVec 32)) (k : Nat) : turnsL us (k + 1) = quartL (quartL (quartL (quartL (quartL (quartL (quartL (quartL (turnsL us k) 0 4 8 12) 1 5 9 13) 2 6 10 14) 3 7 11 15) 0 5 10 15) 1 6 11 12) 2 7 8 13) 3 4 9 14 := rfl

theorem quartered_at (vs : Value) (ws : List (BitVec 32)) (a b c d : Nat) (x y z u : Int) (hx : x = (a : Int)) (hy : y = (b : Int)) (hz : z = (c : Int)) (hu : u = (d : Int)) (w : World) (h : Wl w vs ws) (hl : ws.length = 16) (ha : a < 16) (hb : b < 16) (hc : c < 16) (hd : d < 16) :
    Calls Tryd.prog 65 #[vs, .int .i64 x, .int .i64 y, .int .i64 z, .int .i64 u] w fun e w' => ∃ v', e = .returned v' ∧ Wl w' v' (quartL ws a b c d) ∧ Below w.heap.size w w' := by
  subst hx hy hz hu
  exact quartered_any vs ws a b c d w h hl ha hb hc hd

theorem built4 (W : World) (v : Int) (a b c d : BitVec 32) (hv : v = uw a) : ∀ i, i < 4 → (W.alloc (.cells #[.int .i64 v, .int .i64 (uw b), .int .i64 (uw c), .int .i64 (uw d)] 3)).cell? ⟨W.heap.size, i, none⟩ = some (iw ([a, b, c, d].getD i 0#32)) := by
  subst hv
  intro i hi
  rw [cell_of_row _ _ i _ _ _ (heap_alloc_new _ _)]
  obtain rfl | rfl | rfl | rfl : i = 0 ∨ i = 1 ∨ i = 2 ∨ i = 3 := by omega
  all_goals rfl

theorem bytesU_alt (x : BitVec 32) : bytesU x = [uw x % 256, uw x / 256 % 256, uw x / 65536 % 256, uw x / 16777216] := by
  unfold bytesU
  rw [show uw x / 16777216 % 256 = uw x / 16777216 by have := uw_hi x; have := uw_lo x; omega]

theorem ownsRow_drewN {w : World} {base e : Nat} {v : Value} {n : Nat} {xs : List Value} (h : w.ownsRow base e 1 v n xs) (m : Nat) : (w.drewN m).ownsRow base e 1 v n xs := owns_keep h (fun _ _ => rfl)
theorem below_grow {B : Nat} {w : World} (m : Nat) : Below B w (w.drewN m) := below_drewN (Below.refl _ _) m

set_option maxHeartbeats 4000000 in
set_option maxRecDepth 100000 in
theorem streamBlock_any (vk vn : Value) (key nonce : List Int) (x : Int) (c : Nat) (hx : x = (c : Int)) (w : World) (hk : Sl w vk key) (hn : Sl w vn nonce) (lk : key.length = 32) (ln : nonce.length = 12) (hc : c ≤ 2000000000) :
    Calls Tryd.prog 53 #[vk, .int .i64 x, vn] w fun e w' => ∃ v', e = .returned v' ∧ w'.ownsRow w.heap.size 5 1 v' (blockL (begunL key (BitVec.ofNat 32 c) nonce)).length ((blockL (begunL key (BitVec.ofNat 32 c) nonce)).map (Value.int .u8)) ∧ Below w.heap.size w w' := by
  subst hx
  have HCV : Hid ((c : Int) = uw (BitVec.ofNat 32 c)) := by unfold Hid uw; rw [BitVec.toNat_ofNat, Nat.mod_eq_of_lt (by omega)]
  have ho0 := owns_built w sig4 (n := 4) rfl (by omega)
  have hb0 : Below w.heap.size w (w.alloc (.cells (sig4.map iw).toArray 3)) := (Below.refl _ _).alloc (Nat.le_refl _) _
  have HO : Hid _ := ho0
  have HB0 : Hid _ := hb0
  clear ho0 hb0
  go_enter Tryd.func53, Tryd.ntmps53
  go_wp2_with fail
  go_loopw [7, 8] (fun v i wr => ∃ k : Nat, k ≤ 8 ∧ i = .int .i64 k ∧ wr.ownsRow w.heap.size 3 1 v (sBeg key k).length ((sBeg key k).map iw) ∧ Below w.heap.size w wr) (fun _ i _ => 8 - (intOf i).toNat)
  case atStart => exact ⟨0, by omega, rfl, HO.out, HB0.out⟩
  case round =>
    clear HO HB0
    obtain ⟨k, hk8, rfl, hown, hbel⟩ := hrel
    by_cases hlt8 : k < 8
    · have hlt8i : (k : Int) < 8 := by omega
      go_wp2_with fail
      refine (fourLow_any vk key _ k rfl wr (hk.below hbel) (by omega) (by omega)).mono ?_
      rintro e w1 ⟨rfl, m, rfl⟩
      replace hown := ownsRow_drewN hown m
      replace hbel := below_drewN hbel m
      have hlt := hown.lt
      have HT : Hid (sBeg key (k + 1) = sBeg key k ++ [wordU key k]) := rfl
      have hpl := sBeg_length key k
      generalize wordU key k = x at HT
      generalize sBeg key k = pre at hown HT hpl
      generalize wr.drewN m = W1 at hown hbel hlt
      go_wp2_with (at_builtin; refine wpList_append_word _ rfl _ _ rfl w.heap.size _ pre W1.heap.size x rfl rfl (hown.alloc _) (by simp) (by omega) (by have := hbel.size; simp; omega) ?_)
      intro v' w' ho hg
      have ho' : w'.ownsRow w.heap.size 3 1 v' (pre ++ [x]).length ((pre ++ [x]).map iw) := by simpa [hpl] using ho
      have hb' : Below w.heap.size w w' := (hbel.alloc hbel.size _).grown hg (by have := hbel.size; simp; omega) (fun k hk => (hlt k hk).1)
      clear ho hg hown hlt hbel
      go_wp2
      go_roundw
      case rel => exact ⟨k + 1, by omega, by go_num, by rw [HT.out]; exact ho', hb'⟩
      case measure => simp [intOf]; omega
    · have hlt8i : ¬ (k : Int) < 8 := by omega
      obtain rfl : k = 8 := by omega
      go_wp2_with fail
      refine (fourLow_any vn nonce _ 0 (by omega) wr (hn.below hbel) (by omega) (by omega)).mono ?_
      rintro e w1 ⟨rfl, m1, rfl⟩
      go_wp2_with fail
      refine (fourLow_any vn nonce _ 1 (by omega) _ (hn.below (below_drewN hbel m1)) (by omega) (by omega)).mono ?_
      rintro e w1 ⟨rfl, m2, rfl⟩
      go_wp2_with fail
      refine (fourLow_any vn nonce _ 2 (by omega) _ (hn.below (below_drewN hbel (m1 + m2))) (by omega) (by omega)).mono ?_
      rintro e w1 ⟨rfl, m3, rfl⟩
      replace hown := ownsRow_drewN hown (m1 + m2 + m3)
      replace hbel := below_drewN hbel (m1 + m2 + m3)
      have hlt := hown.lt
      have HALL : Hid (begunL key (BitVec.ofNat 32 c) nonce = sBeg key 8 ++ [BitVec.ofNat 32 c, wordU nonce 0, wordU nonce 1, wordU nonce 2]) := (sBeg_all _ _ _).symm
      have hpl := sBeg_length key 8
      generalize sBeg key 8 = pre at hown HALL hpl
      generalize wordU nonce 0 = n0 at HALL
      generalize wordU nonce 1 = n1 at HALL
      generalize wordU nonce 2 = n2 at HALL
      rw [World.drewN_drewN]
      generalize wr.drewN (m1 + m2 + m3) = W1 at hown hbel hlt
      go_wp2_with (at_builtin; refine wpList_append_words _ rfl _ _ rfl w.heap.size _ pre [BitVec.ofNat 32 c, n0, n1, n2] W1.heap.size 4 rfl rfl rfl (hown.alloc _) (built4 W1 _ _ _ _ _ HCV.out) (by rw [hpl]; simp) (by have := hbel.size; simp; omega) ?_)
      intro vs w2 ho2 hg2
      have hos : w2.ownsRow w.heap.size 3 1 vs (begunL key (BitVec.ofNat 32 c) nonce).length ((begunL key (BitVec.ofNat 32 c) nonce).map iw) := by rw [HALL.out]; simpa [hpl] using ho2
      have hb2 : Below w.heap.size w w2 := (hbel.alloc hbel.size _).grown hg2 (by have := hbel.size; simp; omega) (fun k hk => (hlt k hk).1)
      have lus := begunL_length key (BitVec.ofNat 32 c) nonce
      have hws : Wl w2 vs (begunL key (BitVec.ofNat 32 c) nonce) := Wl.ofOwns hos (by rw [lus]; omega)
      clear ho2 hg2 hown hlt hbel HALL hpl hos HCV
      generalize hus : begunL key (BitVec.ofNat 32 c) nonce = us at hws lus
      have HUS : Hid (begunL key (BitVec.ofNat 32 c) nonce = us) := hus
      clear hus
      go_wp2_with fail
      go_loopw [9, 10] (fun vx i wr => ∃ k : Nat, k ≤ 10 ∧ i = .int .i64 k ∧ Wl wr vx (turnsL us k) ∧ Below w2.heap.size w2 wr) (fun _ i _ => 10 - (intOf i).toNat)
      case atStart => exact ⟨0, by omega, rfl, hws, Below.refl _ _⟩
      case round =>
        obtain ⟨k, hk10, rfl, hwx, hbel⟩ := hrel
        have lx : (turnsL us k).length = 16 := by rw [turnsL_length]; exact lus
        by_cases hlt10 : k < 10
        · have hlt10i : (k : Int) < 10 := by omega
          have HT : Hid _ := turns_eight us k
          generalize turnsL us k = X0 at hwx lx HT
          go_wp2_with fail
          refine (quartered_at _ _ 0 4 8 12 _ _ _ _ rfl rfl rfl rfl _ hwx lx (by omega) (by omega) (by omega) (by omega)).mono ?_
          rintro e w3 ⟨vx, rfl, hwx, hb3⟩
          replace hbel := hbel.trans (hb3.mono hbel.size)
          replace lx := (quartL_length _ 0 4 8 12).trans lx
          clear hb3
          go_wp2_with fail
          refine (quartered_at _ _ 1 5 9 13 _ _ _ _ rfl rfl rfl rfl _ hwx lx (by omega) (by omega) (by omega) (by omega)).mono ?_
          rintro e w3 ⟨vx, rfl, hwx, hb3⟩
          replace hbel := hbel.trans (hb3.mono hbel.size)
          replace lx := (quartL_length _ 1 5 9 13).trans lx
          clear hb3
          go_wp2_with fail
          refine (quartered_at _ _ 2 6 10 14 _ _ _ _ rfl rfl rfl rfl _ hwx lx (by omega) (by omega) (by omega) (by omega)).mono ?_
          rintro e w3 ⟨vx, rfl, hwx, hb3⟩
          replace hbel := hbel.trans (hb3.mono hbel.size)
          replace lx := (quartL_length _ 2 6 10 14).trans lx
          clear hb3
          go_wp2_with fail
          refine (quartered_at _ _ 3 7 11 15 _ _ _ _ rfl rfl rfl rfl _ hwx lx (by omega) (by omega) (by omega) (by omega)).mono ?_
          rintro e w3 ⟨vx, rfl, hwx, hb3⟩
          replace hbel := hbel.trans (hb3.mono hbel.size)
          replace lx := (quartL_length _ 3 7 11 15).trans lx
          clear hb3
          go_wp2_with fail
          refine (quartered_at _ _ 0 5 10 15 _ _ _ _ rfl rfl rfl rfl _ hwx lx (by omega) (by omega) (by omega) (by omega)).mono ?_
          rintro e w3 ⟨vx, rfl, hwx, hb3⟩
          replace hbel := hbel.trans (hb3.mono hbel.size)
          replace lx := (quartL_length _ 0 5 10 15).trans lx
          clear hb3
          go_wp2_with fail
          refine (quartered_at _ _ 1 6 11 12 _ _ _ _ rfl rfl rfl rfl _ hwx lx (by omega) (by omega) (by omega) (by omega)).mono ?_
          rintro e w3 ⟨vx, rfl, hwx, hb3⟩
          replace hbel := hbel.trans (hb3.mono hbel.size)
          replace lx := (quartL_length _ 1 6 11 12).trans lx
          clear hb3
          go_wp2_with fail
          refine (quartered_at _ _ 2 7 8 13 _ _ _ _ rfl rfl rfl rfl _ hwx lx (by omega) (by omega) (by omega) (by omega)).mono ?_
          rintro e w3 ⟨vx, rfl, hwx, hb3⟩
          replace hbel := hbel.trans (hb3.mono hbel.size)
          replace lx := (quartL_length _ 2 7 8 13).trans lx
          clear hb3
          go_wp2_with fail
          refine (quartered_at _ _ 3 4 9 14 _ _ _ _ rfl rfl rfl rfl _ hwx lx (by omega) (by omega) (by omega) (by omega)).mono ?_
          rintro e w3 ⟨vx, rfl, hwx, hb3⟩
          replace hbel := hbel.trans (hb3.mono hbel.size)
          replace lx := (quartL_length _ 3 4 9 14).trans lx
          clear hb3
          go_wp2
          go_roundw
          case rel => exact ⟨k + 1, by omega, by go_num, by rw [HT.out]; exact hwx, hbel⟩
          case measure => simp [intOf]; omega
        · have hlt10i : ¬ (k : Int) < 10 := by omega
          obtain rfl : k = 10 := by omega
          have hws2 := hws.below hbel
          have hB3 : Below w.heap.size w wr := hb2.trans (hbel.mono hb2.size)
          have HBL : Hid (blockL us = outL (turnsL us 10) us 16) := rfl
          generalize turnsL us 10 = xs at hwx lx HBL
          obtain ⟨gx, cx, rfl, hgx, hcx, hcellx⟩ := hwx.ex
          obtain ⟨gy, cy, hvy, hgy, hcy, hcelly⟩ := hws2.ex
          rw [lus] at hvy hcy hcelly
          rw [lx] at hcx hcellx ⊢
          subst hvy
          clear hbel hws hb2 hwx hws2
          generalize wr = W3 at hgx hgy hcellx hcelly hB3 ⊢
          have HCX : Hid _ := hcellx
          have HCY : Hid _ := hcelly
          clear hcellx hcelly
          go_wp2_with fail
          go_loopw [11, 12] (fun vo i wr => ∃ k : Nat, k ≤ 16 ∧ i = .int .i64 k ∧ wr.ownsRow W3.heap.size 5 1 vo (outL xs us k).length ((outL xs us k).map (Value.int .u8)) ∧ Below W3.heap.size W3 wr) (fun _ i _ => 16 - (intOf i).toNat)
          case atStart => exact ⟨0, by omega, rfl, World.ownsRow_nil _ _ _ _, Below.refl _ _⟩
          case round =>
            obtain ⟨k, hk16, rfl, hown, hbel⟩ := hrel
            by_cases hlt16 : k < 16
            · have hlt16i : (k : Int) < 16 := by omega
              have ckx := (hbel.cell (p := ⟨gx, k, none⟩) hgx).trans (HCX.out k hlt16)
              have cky := (hbel.cell (p := ⟨gy, k, none⟩) hgy).trans (HCY.out k hlt16)
              have HT : Hid (outL xs us (k + 1) = outL xs us k ++ bytesU (xs.getD k 0#32 + us.getD k 0#32)) := rfl
              have hpl := outL_length xs us k
              generalize xs.getD k 0#32 = x at ckx HT
              generalize us.getD k 0#32 = y at cky HT
              have xl := uw_lo x
              have xh := uw_hi x
              have yl := uw_lo y
              have yh := uw_hi y
              go_wp2_with fail
              go_quiet ((go_at_call 66; exact Calls.quiet_of_same (word_at _ (x + y) (uw_sum2 _ _) _ (by omega) (by omega))))
              replace hown : (wr.drewN nq).ownsRow W3.heap.size 5 1 _ _ _ := owns_keep hown (fun _ _ => rfl)
              replace hbel := below_drewN hbel nq
              have hlt := hown.lt
              clear ckx cky xl xh yl yh
              generalize wr.drewN nq = W4 at hown hbel hlt ⊢
              have HBY := bytesU_alt (x + y)
              have HBB := bytesU_byte (x + y)
              have zl := uw_lo (x + y)
              have zh := uw_hi (x + y)
              generalize x + y = z at HT HBY HBB zl zh
              rw [HBY] at HT HBB
              clear HBY
              generalize outL xs us k = pre at hown HT hpl
              go_wp2_with (at_builtin; refine wpList_append_sl _ rfl _ _ 22 rfl W3.heap.size 5 Tryd.underlying22 info5 _ _ rfl rfl pre [uw z % 256, uw z / 256 % 256, uw z / 65536 % 256, uw z / 16777216] (hown.alloc _) (Sl.built W4 [uw z % 256, uw z / 256 % 256, uw z / 65536 % 256, uw z / 16777216] 5 rfl (by simp) HBB) (by rw [hpl]; simp; omega) (by have := hbel.size; simp; omega) ?_)
              intro v' w' ho hg
              have ho' : w'.ownsRow W3.heap.size 5 1 v' (pre ++ [uw z % 256, uw z / 256 % 256, uw z / 65536 % 256, uw z / 16777216]).length ((pre ++ [uw z % 256, uw z / 256 % 256, uw z / 65536 % 256, uw z / 16777216]).map (Value.int .u8)) := by simpa [hpl] using ho
              have hb' : Below W3.heap.size W3 w' := (hbel.alloc hbel.size _).grown hg (by have := hbel.size; simp; omega) (fun k hk => (hlt k hk).1)
              clear ho hg hown hlt hbel
              go_wp2
              go_roundw
              case rel => exact ⟨k + 1, by omega, by go_num, by rw [HT.out]; exact ho', hb'⟩
              case measure => simp [intOf]; omega
            · have hlt16i : ¬ (k : Int) < 16 := by omega
              have HK : Hid (k = 16) := by unfold Hid; omega
              go_wp2
              go_ret
              refine ⟨_, rfl, ?_, hB3.trans (hbel.mono hB3.size)⟩
              rw [HUS.out, HBL.out, ← HK.out]
              refine ⟨hown.1, ?_⟩
              rcases hown.2 with h2 | ⟨g, cap, cur, hv, hg, hr⟩
              · exact .inl h2
              · exact .inr ⟨g, cap, cur, hv, Nat.le_trans hB3.size hg, hr⟩
end Go.Proofs.YtpoaabjpeigooaaDoor
/-
  The walks of the document's own answers of the stream.
-/
namespace Go.Proofs.YtpoaabjpeigooaaDoor
open Go.RowKit

theorem mixedOf_no (vk vn vd : Value) (key nonce : List Int) (c : Int) (w : World) (hk : Sl w vk key) (hn : Sl w vn nonce) (hE : chaErr key nonce c ≠ 0) :
    Calls Tryd.prog 41 #[vk, .int .i64 c, vn, vd] w fun e w' => e = .returned (.tuple #[.slice none 0 0, .int .i64 (chaErr key nonce c)]) ∧ w' = w := by
  go_enter Tryd.func41, Tryd.ntmps41
  go_wp2_with fail
  refine (fault_any vk vn key nonce c w hk hn).mono ?_
  rintro e w1 ⟨rfl, rfl⟩
  generalize hEE : chaErr key nonce c = E at hE
  have HE : Hid (chaErr key nonce c = E) := hEE
  clear hEE
  go_wp2
  go_ret2
  exact ⟨by rw [HE.out]; rfl, rfl⟩

theorem mixedOf_long (vk vn vd : Value) (key nonce d : List Int) (c : Int) (w : World) (hk : Sl w vk key) (hn : Sl w vn nonce) (hd : Sl w vd d) (hE : chaErr key nonce c = 0) (ld : 2000 < d.length) :
    Calls Tryd.prog 41 #[vk, .int .i64 c, vn, vd] w fun e w' => e = .returned (.tuple #[.slice none 0 0, .int .i64 1]) ∧ w' = w := by
  obtain ⟨⟨ad, capd, rfl, hcd, hnd, h1⟩, hla, hba⟩ := hd
  clear h1
  have ldi : (2000 : Int) < (d.length : Int) := by omega
  go_enter Tryd.func41, Tryd.ntmps41
  go_wp2_with fail
  refine (fault_any vk vn key nonce c w hk hn).mono ?_
  rintro e w1 ⟨rfl, rfl⟩
  rw [hE]
  go_wp2
  go_ret2
  exact ⟨rfl, rfl⟩

theorem bx_comm (x y : Int) : bx x y = bx y x := by unfold bx; rw [Nat.xor_comm]

theorem strAt_beg (key nonce : List Int) (c k : Nat) : strAt (begunL key (BitVec.ofNat 32 c) nonce) k = (blockL (begunL key (BitVec.ofNat 32 (c + k / 64)) nonce)).getD (k % 64) 0 := by
  rw [← strAt_first key nonce (c + k / 64) (k % 64) (by omega), strAt_on]
  congr 1
  omega

set_option maxHeartbeats 4000000 in
set_option maxRecDepth 100000 in
theorem mixedOf_ok (vk vn vd : Value) (key nonce d : List Int) (c : Nat) (w : World) (hk : Sl w vk key) (hn : Sl w vn nonce) (hd : Sl w vd d) (lk : key.length = 32) (ln : nonce.length = 12) (hc : c ≤ 1073741824) (ld : d.length ≤ 2000) :
    Calls Tryd.prog 41 #[vk, .int .i64 c, vn, vd] w fun e w' => ∃ v', e = .returned (.tuple #[v', .int .i64 0]) ∧ Sl w' v' (mixL (begunL key (BitVec.ofNat 32 c) nonce) d) ∧ Below w.heap.size w w' := by
  obtain ⟨i0, hi0, hz0, hz1, hz2⟩ := info_parts info5
  have hds := hd
  obtain ⟨⟨ad, capd, rfl, hcd, hnd, h1⟩, hla, hba⟩ := hd
  clear h1 hnd
  have HY : Hid (∀ x ∈ d, 0 ≤ x ∧ x < 256) := hba
  generalize hnn : d.length = n at *
  have HN : Hid (d.length = n) := hnn
  clear hnn hba
  have ldi : (n : Int) ≤ 2000 := by omega
  go_enter Tryd.func41, Tryd.ntmps41
  go_wp2_with fail
  refine (fault_any vk vn key nonce c w hk hn).mono ?_
  rintro e w1 ⟨rfl, rfl⟩
  rw [chaErr_ok lk ln (by omega)]
  go_wp2_with fail
  go_loopw [11, 12, 13] (fun vo vb i wr => ∃ k : Nat, k ≤ n ∧ i = .int .i64 k ∧ wr.ownsRow w1.heap.size 5 1 vo (mixTo (begunL key (BitVec.ofNat 32 c) nonce) d k).length ((mixTo (begunL key (BitVec.ofNat 32 c) nonce) d k).map (Value.int .u8)) ∧ (k % 64 ≠ 0 → ∃ gb cb, vb = .slice (some ⟨gb, 0, none⟩) 64 cb ∧ vo.ownBlock ≠ some gb ∧ gb < wr.heap.size ∧ ∀ j, j < 64 → wr.cell? ⟨gb, j, none⟩ = some (.int .u8 ((blockL (begunL key (BitVec.ofNat 32 (c + k / 64)) nonce)).getD j 0))) ∧ Below w1.heap.size w1 wr) (fun _ _ i _ => n - (intOf i).toNat)
  case atStart => exact ⟨0, by omega, rfl, World.ownsRow_nil _ _ _ _, by simp, Below.refl _ _⟩
  case round =>
    obtain ⟨k, hkn, rfl, hown, hblk, hb⟩ := hrel
    by_cases hlt : k < n
    · have hlti : (k : Int) < (n : Int) := by omega
      obtain ⟨bd, od, rfl, hbd, hcd2⟩ : ∃ bd od, ad = some ⟨bd, od, none⟩ ∧ bd < w1.heap.size ∧ w1.cell? ⟨bd, od + k, none⟩ = some (.int .u8 (d.getD k 0)) := by
        obtain ⟨⟨a', cap', e', _, _, h1'⟩, _, _⟩ := hds
        rw [HN.out] at e' h1'
        simp only [Value.slice.injEq] at e'
        obtain ⟨rfl, _, _⟩ := e'
        rcases h1' with h1' | ⟨b', o', rfl, hb', hc'⟩
        · have := HN.out; rw [h1'] at this; simp at this; omega
        · exact ⟨b', o', rfl, hb', hc' k hlt⟩
      have cd := (hb.cell (p := ⟨bd, od + k, none⟩) hbd).trans hcd2
      have y2 := getD_byte HY.out k
      have HV : Hid (mixTo (begunL key (BitVec.ofNat 32 c) nonce) d (k + 1) = mixTo (begunL key (BitVec.ofNat 32 c) nonce) d k ++ [bx (d.getD k 0) ((blockL (begunL key (BitVec.ofNat 32 (c + k / 64)) nonce)).getD (k % 64) 0)]) := by
        unfold Hid
        rw [← strAt_beg, bx_comm]
        rfl
      have hml := mixTo_length (begunL key (BitVec.ofNat 32 c) nonce) d k
      have hbb := blockL_byte (begunL key (BitVec.ofNat 32 (c + k / 64)) nonce)
      have y1 := getD_byte hbb (k % 64)
      generalize mixTo (begunL key (BitVec.ofNat 32 c) nonce) d k = pre at hown HV hml
      by_cases hz : k % 64 = 0
      · have hzi : (k : Int) % 64 = 0 := by omega
        rw [hz] at HV y1
        go_wp2_with fail
        refine (streamBlock_any vk vn key nonce _ (c + k / 64) (by omega) wr (hk.below hb) (hn.below hb) lk ln (by omega)).mono ?_
        rintro e W ⟨v2, rfl, ho2, b2⟩
        have hbl := blockL_length (begunL key (BitVec.ofNat 32 (c + k / 64)) nonce)
        generalize hbs : blockL (begunL key (BitVec.ofNat 32 (c + k / 64)) nonce) = bs at HV hbb y1 ho2 hbl
        have HBS : Hid (blockL (begunL key (BitVec.ofNat 32 (c + k / 64)) nonce) = bs) := hbs
        clear hbs
        obtain ⟨gb, cb, hv2, hgb, hgbs, hcb, hcellb, _⟩ := owns_shape ho2 (by intro e; rw [e] at hbl; simp at hbl)
        rw [hbl] at hv2 hcellb
        subst hv2
        have hneb : u11.ownBlock ≠ some gb := fun e => by have := (hown.lt gb e).2; omega
        have hownW := owns_keep hown (fun k hk => b2.block k ((hown.lt k hk).2))
        have hbW : Below w1.heap.size w1 W := hb.trans (b2.mono hb.size)
        have cdW := (b2.cell (p := ⟨bd, od + k, none⟩) (World.block_lt_of_cell? wr _ cd)).trans cd
        have cbW := hcellb 0 (by omega)
        have HCB : Hid _ := hcellb
        clear ho2 b2 hcellb cd
        rw [hml] at hownW
        generalize bs.getD 0 0 = x at cbW y1 HV
        generalize d.getD k 0 = y at cdW y2 HV
        have hk0i : (0 : Int) ≤ (k : Int) := by omega
        have htm : (k : Int).tmod 64 = 0 := by rw [Int.tmod_eq_emod_of_nonneg hk0i]; exact hzi
        have lbd := World.block_lt_of_cell? W _ cdW
        have n1 : u11.ownBlock ≠ some bd := fun e => by have := (hownW.lt bd e).1; omega
        have hBW := hbW.size
        have HXX : Hid (bits .xor .u8 y x = bx y x) := bx_bits y2 y1
        have HBX := bx_byte y2 y1
        have HB2 : Hid (0 ≤ bx y x ∧ bx y x < 256) := HBX
        clear HBX hown hb hblk
        have HNW1 := World.new_ne W _ cdW
        have HNW2 := World.new_ne W _ cbW
        go_wp2_with fail
        go_region_held3 (fun w' => w'.cell? ⟨bd, od + k, none⟩ = some (.int .u8 y) ∧ w'.cell? ⟨gb, 0, none⟩ = some (.int .u8 x))
          (first
            | go_keep
            | (go_split_ands
               refine ⟨?_, ?_⟩
               · (rw [hgrow.cell_far _ (by simp; omega) (Ne.symm n1)]; assumption)
               · (rw [hgrow.cell_far _ (by simp; omega) (Ne.symm hneb)]; assumption)))
          ((refine step_append_lies _ (by rfl) _ _ _ (by rfl) w1.heap.size 5 i0 _ 1 1 Tryd.underlying22 hi0 hz0 hz1 hz2 rfl (by omega) u11 k (pre.map (Value.int .u8)) (by rfl) ((hownW.alloc _).drew)
              ⟨W.heap.size, 0, none⟩ 1 1 [.int .u8 (bits .xor .u8 y x)] (by rfl) (by rfl) (World.news_of_block (cs := #[.int .u8 (bits .xor .u8 y x)]) (t := 5) (fr := (0, 0)) (heap_alloc_new W _)) (by simp [Value.oneCell'])
              (by omega) (by unfold maxLen; omega) (by omega) (by simp; omega) (W.heap.size + 1) (by simp) ?_; intro gg cap wn hown1 hgrow hat hlt2))
        have hgl : gb < W.heap.size := hgbs
        have bA : Below W.heap.size W ((W.alloc (.cells #[.int .u8 (bits .xor .u8 y x)] 5)).drew) := ((Below.refl _ _).alloc (Nat.le_refl _) _).drew
        have hb' : Below w1.heap.size w1 wn := (hbW.trans (bA.mono hBW)).grown hgrow (by have := bA.size; omega) (fun k hk => (hownW.lt k hk).1)
        have ho' : wn.ownsRow w1.heap.size 5 1 (.slice (some ⟨gg, 0, none⟩) (k + 1) cap) (mixTo (begunL key (BitVec.ofNat 32 c) nonce) d (k + 1)).length ((mixTo (begunL key (BitVec.ofNat 32 c) nonce) d (k + 1)).map (Value.int .u8)) := by
          rw [HV.out]
          rw [HXX.out] at hown1
          simpa [hml] using hown1
        have hne' : Value.ownBlock (.slice (some ⟨gg, 0, none⟩) (k + 1) cap) ≠ some gb := by
          intro e
          have e' : gg = gb := by simpa [Value.ownBlock] using e
          rcases hat with h | h
          · exact hneb (e' ▸ h)
          · omega
        have hcell' : ∀ j, j < 64 → wn.cell? ⟨gb, j, none⟩ = some (.int .u8 (bs.getD j 0)) := fun j hj => ((hgrow.cell_far ⟨gb, j, none⟩ (Nat.lt_of_lt_of_le hgl bA.size) (Ne.symm hneb)).trans (bA.cell (p := ⟨gb, j, none⟩) hgl)).trans (HCB.out j hj)
        have hgn : gb < wn.heap.size := Nat.lt_of_lt_of_le (Nat.lt_of_lt_of_le hgl bA.size) hgrow.size
        clear hown1 hgrow hat hlt2 hownW hbW cdW cbW
        go_wp2
        go_roundw
        case rel =>
          refine ⟨k + 1, by omega, by go_num, ho', fun h64 => ⟨gb, cb, rfl, hne', hgn, ?_⟩, hb'⟩
          rw [show (k + 1) / 64 = k / 64 by omega, HBS.out]
          exact hcell'
        case measure => simp [intOf]; omega
      · have hzi : ¬ (k : Int) % 64 = 0 := by omega
        obtain ⟨gb, cb, rfl, hneb, hgbs, hcellb⟩ := hblk hz
        obtain ⟨W, hW⟩ : ∃ W, W = wr := ⟨_, rfl⟩
        have HBS : Hid (blockL (begunL key (BitVec.ofNat 32 (c + k / 64)) nonce) = blockL (begunL key (BitVec.ofNat 32 (c + k / 64)) nonce)) := rfl
        obtain ⟨r, hr⟩ : ∃ r, k % 64 = r := ⟨_, rfl⟩
        have hr64 : r < 64 := by omega
        have hr0i : (0 : Int) ≤ (r : Int) := by omega
        have hr64i : (r : Int) < 64 := by omega
        have hrmi : (k : Int) % 64 = (r : Int) := by omega
        have hri : ¬ (r : Int) = 0 := by omega
        rw [hr] at HV y1
        have hown' := hown
        rw [hml] at hown'
        have hownW := hown'
        have hbW := hb
        have cdW := cd
        have cbW := hcellb r hr64
        rw [← hW] at hownW hbW cdW cbW hgbs hcellb ⊢
        have HCB : Hid _ := hcellb
        clear hW hcellb cd hown' hz hr hzi
        generalize hbs : blockL (begunL key (BitVec.ofNat 32 (c + k / 64)) nonce) = bs at HV hbb y1 cbW HCB
        replace HBS : Hid (blockL (begunL key (BitVec.ofNat 32 (c + k / 64)) nonce) = bs) := hbs
        clear hbs
        generalize bs.getD r 0 = x at cbW y1 HV
        generalize d.getD k 0 = y at cdW y2 HV
        have hk0i : (0 : Int) ≤ (k : Int) := by omega
        have htm : (k : Int).tmod 64 = (r : Int) := by rw [Int.tmod_eq_emod_of_nonneg hk0i]; omega
        have lbd := World.block_lt_of_cell? W _ cdW
        have n1 : u11.ownBlock ≠ some bd := fun e => by have := (hownW.lt bd e).1; omega
        have hBW := hbW.size
        have HXX : Hid (bits .xor .u8 y x = bx y x) := bx_bits y2 y1
        have HBX := bx_byte y2 y1
        have HB2 : Hid (0 ≤ bx y x ∧ bx y x < 256) := HBX
        clear HBX hown hb hblk
        have HNW1 := World.new_ne W _ cdW
        have HNW2 := World.new_ne W _ cbW
        go_wp2_with fail
        go_region_held3 (fun w' => w'.cell? ⟨bd, od + k, none⟩ = some (.int .u8 y) ∧ w'.cell? ⟨gb, r, none⟩ = some (.int .u8 x))
          (first
            | go_keep
            | (go_split_ands
               refine ⟨?_, ?_⟩
               · (rw [hgrow.cell_far _ (by simp; omega) (Ne.symm n1)]; assumption)
               · (rw [hgrow.cell_far _ (by simp; omega) (Ne.symm hneb)]; assumption)))
          ((refine step_append_lies _ (by rfl) _ _ _ (by rfl) w1.heap.size 5 i0 _ 1 1 Tryd.underlying22 hi0 hz0 hz1 hz2 rfl (by omega) u11 k (pre.map (Value.int .u8)) (by rfl) ((hownW.alloc _).drew)
              ⟨W.heap.size, 0, none⟩ 1 1 [.int .u8 (bits .xor .u8 y x)] (by rfl) (by rfl) (World.news_of_block (cs := #[.int .u8 (bits .xor .u8 y x)]) (t := 5) (fr := (0, 0)) (heap_alloc_new W _)) (by simp [Value.oneCell'])
              (by omega) (by unfold maxLen; omega) (by omega) (by simp; omega) (W.heap.size + 1) (by simp) ?_; intro gg cap wn hown1 hgrow hat hlt2))
        have hgl : gb < W.heap.size := hgbs
        have bA : Below W.heap.size W ((W.alloc (.cells #[.int .u8 (bits .xor .u8 y x)] 5)).drew) := ((Below.refl _ _).alloc (Nat.le_refl _) _).drew
        have hb' : Below w1.heap.size w1 wn := (hbW.trans (bA.mono hBW)).grown hgrow (by have := bA.size; omega) (fun k hk => (hownW.lt k hk).1)
        have ho' : wn.ownsRow w1.heap.size 5 1 (.slice (some ⟨gg, 0, none⟩) (k + 1) cap) (mixTo (begunL key (BitVec.ofNat 32 c) nonce) d (k + 1)).length ((mixTo (begunL key (BitVec.ofNat 32 c) nonce) d (k + 1)).map (Value.int .u8)) := by
          rw [HV.out]
          rw [HXX.out] at hown1
          simpa [hml] using hown1
        have hne' : Value.ownBlock (.slice (some ⟨gg, 0, none⟩) (k + 1) cap) ≠ some gb := by
          intro e
          have e' : gg = gb := by simpa [Value.ownBlock] using e
          rcases hat with h | h
          · exact hneb (e' ▸ h)
          · omega
        have hcell' : ∀ j, j < 64 → wn.cell? ⟨gb, j, none⟩ = some (.int .u8 (bs.getD j 0)) := fun j hj => ((hgrow.cell_far ⟨gb, j, none⟩ (Nat.lt_of_lt_of_le hgl bA.size) (Ne.symm hneb)).trans (bA.cell (p := ⟨gb, j, none⟩) hgl)).trans (HCB.out j hj)
        have hgn : gb < wn.heap.size := Nat.lt_of_lt_of_le (Nat.lt_of_lt_of_le hgl bA.size) hgrow.size
        clear hown1 hgrow hat hlt2 hownW hbW cdW cbW
        go_wp2
        go_roundw
        case rel =>
          refine ⟨k + 1, by omega, by go_num, ho', fun h64 => ⟨gb, cb, rfl, hne', hgn, ?_⟩, hb'⟩
          rw [show (k + 1) / 64 = k / 64 by omega, HBS.out]
          exact hcell'
        case measure => simp [intOf]; omega
    · have hlti : ¬ (k : Int) < (n : Int) := by omega
      have HK : Hid (n = k) := by unfold Hid; omega
      go_wp2
      go_ret2
      refine ⟨_, rfl, ?_, hb⟩
      have := Sl.ofOwns hown (by rw [mixTo_length]; omega) (mixTo_byte _ HY.out k)
      unfold mixL
      rw [HN.out, HK.out]
      exact this
end Go.Proofs.YtpoaabjpeigooaaDoor
