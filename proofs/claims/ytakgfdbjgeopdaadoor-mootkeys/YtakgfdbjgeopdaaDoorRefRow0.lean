/-
  Words as numbers of 64 bits, and rows of such words in memory.
-/
import Derived.Test.YtakgfdbjgeopdaaDoorRefWords
import Derived.Test.YtakgfdbjgeopdaaDoorTail
import Derived.Deep.QuietTactic
namespace Go.Proofs.YtakgfdbjgeopdaaDoor
open Go.RowKit

theorem ofInt64 (a : Nat) (h : a < 4294967296) : (BitVec.ofInt 64 (a : Int)).toNat = a := by
  rw [BitVec.ofInt_natCast, BitVec.toNat_ofNat]; exact Nat.mod_eq_of_lt (by omega)
theorem wrap64 (n : Nat) (h : n < 4294967296) : IntKind.i64.wrap (n : Int) = n := by
  simp [IntKind.wrap, IntKind.bits, IntKind.signed]
  omega
theorem uw_xor64 (x y : BitVec 32) : bits .xor .i64 (uw x) (uw y) = uw (x ^^^ y) := by
  unfold uw
  show IntKind.i64.wrap ((BitVec.ofInt 64 (x.toNat : Int) ^^^ BitVec.ofInt 64 (y.toNat : Int)).toNat : Int) = _
  rw [BitVec.toNat_xor, ofInt64 _ x.isLt, ofInt64 _ y.isLt, wrap64 _ (Nat.xor_lt_two_pow (n := 32) x.isLt y.isLt), BitVec.toNat_xor]
theorem uw_and64 (x y : BitVec 32) : bits .and .i64 (uw x) (uw y) = uw (x &&& y) := by
  unfold uw
  show IntKind.i64.wrap ((BitVec.ofInt 64 (x.toNat : Int) &&& BitVec.ofInt 64 (y.toNat : Int)).toNat : Int) = _
  rw [BitVec.toNat_and, ofInt64 _ x.isLt, ofInt64 _ y.isLt, wrap64 _ (Nat.and_lt_two_pow (n := 32) _ y.isLt), BitVec.toNat_and]
theorem uw_or64 (x y : BitVec 32) : bits .or .i64 (uw x) (uw y) = uw (x ||| y) := by
  unfold uw
  show IntKind.i64.wrap ((BitVec.ofInt 64 (x.toNat : Int) ||| BitVec.ofInt 64 (y.toNat : Int)).toNat : Int) = _
  rw [BitVec.toNat_or, ofInt64 _ x.isLt, ofInt64 _ y.isLt, wrap64 _ (Nat.or_lt_two_pow (n := 32) x.isLt y.isLt), BitVec.toNat_or]

theorem take_set_succ (xs : List (BitVec 32)) (k : Nat) (a : BitVec 32) (h : k < xs.length) : (xs.set k a).take (k + 1) = xs.take k ++ [a] := by
  rw [List.take_succ_eq_append_getElem (by simpa using h), List.take_set_of_le (by omega)]
  simp

def iw (x : BitVec 32) : Value := .int .i64 (uw x)

structure Wl (w : World) (v : Value) (ws : List (BitVec 32)) : Prop where
  ex : ∃ g cap, v = .slice (some ⟨g, 0, none⟩) ws.length cap ∧ g < w.heap.size ∧ ws.length ≤ cap ∧ ∀ i, i < ws.length → w.cell? ⟨g, i, none⟩ = some (.int .i64 (uw (ws.getD i 0#32)))

theorem Wl.below {w w' : World} {v : Value} {ws : List (BitVec 32)} (h : Wl w v ws) (hb : Below w.heap.size w w') : Wl w' v ws := by
  obtain ⟨g, cap, rfl, hg, hc, hcell⟩ := h.ex
  exact ⟨g, cap, rfl, Nat.lt_of_lt_of_le hg hb.size, hc, fun i hi => (hb.cell (p := ⟨g, i, none⟩) hg).trans (hcell i hi)⟩

theorem Wl.ofOwns {w : World} {base : Nat} {v : Value} {ws : List (BitVec 32)} (h : w.ownsRow base 3 1 v ws.length (ws.map iw)) (hne : 0 < ws.length) : Wl w v ws := by
  rcases h.2 with ⟨rfl, h0⟩ | ⟨g, cap, cur, rfl, _, hg, hn, _, hcs, ht⟩
  · omega
  · refine ⟨g, cap, rfl, (Array.getElem?_eq_some_iff.1 hg).1, hn, fun i hi => ?_⟩
    have hc := h.cells (g := g) rfl i (iw (ws.getD i 0#32)) (by simp [List.getElem?_eq_getElem hi, List.getD])
    have hadd : (⟨g, 0, none⟩ : Addr).add i = ⟨g, i, none⟩ := by unfold Addr.add; split <;> simp_all
    rw [hadd] at hc
    simpa [iw] using hc

theorem Wl.ofRow {w : World} {g : Nat} {ws : List (BitVec 32)} {e : TypeId} {q : Nat × Nat} (h : w.heap[g]? = some (.cells (ws.map iw).toArray e q)) {n : Nat} (hn : ws.length = n) : Wl w (.slice (some ⟨g, 0, none⟩) n n) ws := by
  subst hn
  refine ⟨g, ws.length, rfl, (Array.getElem?_eq_some_iff.1 h).1, Nat.le_refl _, fun i hi => ?_⟩
  rw [cell_of_row _ _ i _ _ _ h]
  simp [List.getElem?_eq_getElem hi, List.getD, iw]

theorem info3 : (Tryd.prog.info? 3).map (fun i => (i.zero, i.size, i.bytes)) = some (some (.int .i64 0), 1, 8) := by kernel_rfl

/-- one word more behind a row of words of the call's own -/
theorem run_append_word (w : World) (base ty : Nat) (v : Value) (ws : List (BitVec 32)) (hown : w.ownsRow base 3 1 v ws.length (ws.map iw)) (g : Nat) (x : BitVec 32) (hu : w.cell? ⟨g, 0, none⟩ = some (.int .i64 (uw x)))
    (hlen : ws.length ≤ 1000000) (hbase : base ≤ w.heap.size) :
    ∃ v' w', (Builtin.append_ #[96, 96] ty #[v, .slice (some ⟨g, 0, none⟩) 1 1]).run Tryd.prog w = .ok v' w' ∧ w'.ownsRow base 3 1 v' (ws ++ [x]).length ((ws ++ [x]).map iw) ∧ w.grownBy w' v.ownBlock := by
  obtain ⟨i, hi, hz, hsz, hby⟩ := info_parts info3
  obtain ⟨v', w', hr, ho, hg, _⟩ := run_append_own (P := Tryd.prog) w base 96 ty 3 i (.int .i64 0) 1 8 Tryd.underlying96 hi hz hsz hby rfl (by decide) v ws.length _ hown ⟨g, 0, none⟩ 1 1 [iw x] (by simp)
    (by
      intro j u hj
      obtain rfl : j = 0 := by
        have := (List.getElem?_eq_some_iff.1 hj).1
        simpa using this
      simp at hj
      subst hj
      exact hu)
    (by simp [iw, Value.oneCell']) (by unfold maxLen; omega) (by omega) hbase
  exact ⟨v', w', hr, by simpa using ho, hg⟩

theorem wpList_append_word (w : World) {ops : Array Oper} {rest : List Oper} {o : Oper} {a : Act} {Q : Exit → Act → World → Prop} (hgd : o.guard = none) (s y : Operand)
    (ho : o.op = .call { callee := .builtin .append, args := #[s, y], argTypes := #[96, 96] })
    (base : Nat) (v : Value) (ws : List (BitVec 32)) (g : Nat) (x : BitVec 32) (hs : a.eval s = v) (hx : a.eval y = .slice (some ⟨g, 0, none⟩) 1 1) (hown : w.ownsRow base 3 1 v ws.length (ws.map iw)) (hu : w.cell? ⟨g, 0, none⟩ = some (.int .i64 (uw x)))
    (hlen : ws.length ≤ 1000000) (hbase : base ≤ w.heap.size)
    (h : ∀ v' w', w'.ownsRow base 3 1 v' (ws ++ [x]).length ((ws ++ [x]).map iw) → w.grownBy w' v.ownBlock → wpList Tryd.prog ops Q rest (a.put o.dst v') w') : wpList Tryd.prog ops Q (o :: rest) a w := by
  refine wpList_plain hgd fun K hK => ?_
  obtain ⟨v', w', hrun, r1, r2⟩ := run_append_word w base o.type v ws hown g x hu hlen hbase
  unfold Oper.wp execOp
  simp only [ho, resolve, invoke, builtin, Sem.run_bind, Sem.run_pure, Result.andThen_ok, List.map_toArray, List.map_cons, List.map_nil, hs, hx, hrun]
  exact hK _ _ (h v' w' r1 r2)
end Go.Proofs.YtakgfdbjgeopdaaDoor
