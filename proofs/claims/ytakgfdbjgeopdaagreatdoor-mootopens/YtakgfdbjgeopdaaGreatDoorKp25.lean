/-
  Words as numbers of 64 bits, and rows of such words in memory.
-/
import Derived.Deep.QuietTactic
import Derived.Deep.RegionWith
import Derived.BigRegion
import Derived.Deep.RegionHeld3
import Derived.Deep.AppendLies
import Derived.Deep.RegionLaw
import Derived.Test.YtakgfdbjgeopdaaGreatDoorKp24
import Derived.Test.YtakgfdbjgeopdaaGreatDoorKp2
import Derived.Test.YtakgfdbjgeopdaaGreatDoorKp13
namespace Go.Proofs.YtakgfdbjgeopdaaGreatDoor
open Go.RowKit

theorem ofInt64 (a : Nat) (h : a < 4294967296) : (BitVec.ofInt 64 (a : Int)).toNat = a := by
  rw [BitVec.ofInt_natCast, BitVec.toNat_ofNat]; exact Nat.mod_eq_of_lt (by omega)
theorem wrap64 (n : Nat) (h : n < 4294967296) : IntKind.i64.wrap (n : Int) = n := by
  simp [IntKind.wrap, IntKind.bits, IntKind.signed]
  omega
theorem uw_xor64 (x y : BitVec 32) : bits .xor .i64 (uw x) (uw y) = uw (x ^^^ y) := by
  unfold uw
  show IntKind.i64.wrap ((BitVec.ofInt 64 (x.toNat : Int) ^^^ BitVec.ofInt 64 (y.toNat : Int)).toNat : Int) = _
  rw [BitVec.toNat_xor, ofInt64 _ x.isLt, ofInt64 _ y.isLt, wrap64 _ (Nat.xor_lt_two_pow (n := 32) x.isLt y.isLt), BitVec.toNat_xor]
theorem uw_and64 (x y : BitVec 32) : bits .and .i64 (uw x) (uw y) = uw (x &&& y) := by
  unfold uw
  show IntKind.i64.wrap ((BitVec.ofInt 64 (x.toNat : Int) &&& BitVec.ofInt 64 (y.toNat : Int)).toNat : Int) = _
  rw [BitVec.toNat_and, ofInt64 _ x.isLt, ofInt64 _ y.isLt, wrap64 _ (Nat.and_lt_two_pow (n := 32) _ y.isLt), BitVec.toNat_and]
theorem uw_or64 (x y : BitVec 32) : bits .or .i64 (uw x) (uw y) = uw (x ||| y) := by
  unfold uw
  show IntKind.i64.wrap ((BitVec.ofInt 64 (x.toNat : Int) ||| BitVec.ofInt 64 (y.toNat : Int)).toNat : Int) = _
  rw [BitVec.toNat_or, ofInt64 _ x.isLt, ofInt64 _ y.isLt, wrap64 _ (Nat.or_lt_two_pow (n := 32) x.isLt y.isLt), BitVec.toNat_or]

theorem take_set_succ (xs : List (BitVec 32)) (k : Nat) (a : BitVec 32) (h : k < xs.length) : (xs.set k a).take (k + 1) = xs.take k ++ [a] := by
  rw [List.take_succ_eq_append_getElem (by simpa using h), List.take_set_of_le (by omega)]
  simp

def iw (x : BitVec 32) : Value := .int .i64 (uw x)

structure Wl (w : World) (v : Value) (ws : List (BitVec 32)) : Prop where
  ex : ∃ g cap, v = .slice (some ⟨g, 0, none⟩) ws.length cap ∧ g < w.heap.size ∧ ws.length ≤ cap ∧ ∀ i, i < ws.length → w.cell? ⟨g, i, none⟩ = some (.int .i64 (uw (ws.getD i 0#32)))

theorem Wl.below {w w' : World} {v : Value} {ws : List (BitVec 32)} (h : Wl w v ws) (hb : Below w.heap.size w w') : Wl w' v ws := by
  obtain ⟨g, cap, rfl, hg, hc, hcell⟩ := h.ex
  exact ⟨g, cap, rfl, Nat.lt_of_lt_of_le hg hb.size, hc, fun i hi => (hb.cell (p := ⟨g, i, none⟩) hg).trans (hcell i hi)⟩

theorem Wl.ofOwns {w : World} {base : Nat} {v : Value} {ws : List (BitVec 32)} (h : w.ownsRow base 3 1 v ws.length (ws.map iw)) (hne : 0 < ws.length) : Wl w v ws := by
  rcases h.2 with ⟨rfl, h0⟩ | ⟨g, cap, cur, rfl, _, hg, hn, _, hcs, ht⟩
  · omega
  · refine ⟨g, cap, rfl, (Array.getElem?_eq_some_iff.1 hg).1, hn, fun i hi => ?_⟩
    have hc := h.cells (g := g) rfl i (iw (ws.getD i 0#32)) (by simp [List.getElem?_eq_getElem hi, List.getD])
    have hadd : (⟨g, 0, none⟩ : Addr).add i = ⟨g, i, none⟩ := by unfold Addr.add; split <;> simp_all
    rw [hadd] at hc
    simpa [iw] using hc

theorem Wl.ofRow {w : World} {g : Nat} {ws : List (BitVec 32)} {e : TypeId} {q : Nat × Nat} (h : w.heap[g]? = some (.cells (ws.map iw).toArray e q)) {n : Nat} (hn : ws.length = n) : Wl w (.slice (some ⟨g, 0, none⟩) n n) ws := by
  subst hn
  refine ⟨g, ws.length, rfl, (Array.getElem?_eq_some_iff.1 h).1, Nat.le_refl _, fun i hi => ?_⟩
  rw [cell_of_row _ _ i _ _ _ h]
  simp [List.getElem?_eq_getElem hi, List.getD, iw]

theorem info3 : (Tryz.prog.info? 3).map (fun i => (i.zero, i.size, i.bytes)) = some (some (.int .i64 0), 1, 8) := by kernel_rfl

/-- one word more behind a row of words of the call's own -/
theorem run_append_word (w : World) (base ty : Nat) (v : Value) (ws : List (BitVec 32)) (hown : w.ownsRow base 3 1 v ws.length (ws.map iw)) (g : Nat) (x : BitVec 32) (hu : w.cell? ⟨g, 0, none⟩ = some (.int .i64 (uw x)))
    (hlen : ws.length ≤ 1000000) (hbase : base ≤ w.heap.size) :
    ∃ v' w', (Builtin.append_ #[88, 88] ty #[v, .slice (some ⟨g, 0, none⟩) 1 1]).run Tryz.prog w = .ok v' w' ∧ w'.ownsRow base 3 1 v' (ws ++ [x]).length ((ws ++ [x]).map iw) ∧ w.grownBy w' v.ownBlock := by
  obtain ⟨i, hi, hz, hsz, hby⟩ := info_parts info3
  obtain ⟨v', w', hr, ho, hg, _⟩ := run_append_own (P := Tryz.prog) w base 88 ty 3 i (.int .i64 0) 1 8 Tryz.underlying88 hi hz hsz hby rfl (by decide) v ws.length _ hown ⟨g, 0, none⟩ 1 1 [iw x] (by simp)
    (by
      intro j u hj
      obtain rfl : j = 0 := by
        have := (List.getElem?_eq_some_iff.1 hj).1
        simpa using this
      simp at hj
      subst hj
      exact hu)
    (by simp [iw, Value.oneCell']) (by unfold maxLen; omega) (by omega) hbase
  exact ⟨v', w', hr, by simpa using ho, hg⟩

theorem wpList_append_word (w : World) {ops : Array Oper} {rest : List Oper} {o : Oper} {a : Act} {Q : Exit → Act → World → Prop} (hgd : o.guard = none) (s y : Operand)
    (ho : o.op = .call { callee := .builtin .append, args := #[s, y], argTypes := #[88, 88] })
    (base : Nat) (v : Value) (ws : List (BitVec 32)) (g : Nat) (x : BitVec 32) (hs : a.eval s = v) (hx : a.eval y = .slice (some ⟨g, 0, none⟩) 1 1) (hown : w.ownsRow base 3 1 v ws.length (ws.map iw)) (hu : w.cell? ⟨g, 0, none⟩ = some (.int .i64 (uw x)))
    (hlen : ws.length ≤ 1000000) (hbase : base ≤ w.heap.size)
    (h : ∀ v' w', w'.ownsRow base 3 1 v' (ws ++ [x]).length ((ws ++ [x]).map iw) → w.grownBy w' v.ownBlock → wpList Tryz.prog ops Q rest (a.put o.dst v') w') : wpList Tryz.prog ops Q (o :: rest) a w := by
  refine wpList_plain hgd fun K hK => ?_
  obtain ⟨v', w', hrun, r1, r2⟩ := run_append_word w base o.type v ws hown g x hu hlen hbase
  unfold Oper.wp execOp
  simp only [ho, resolve, invoke, builtin, Sem.run_bind, Sem.run_pure, Result.andThen_ok, List.map_toArray, List.map_cons, List.map_nil, hs, hx, hrun]
  exact hK _ _ (h v' w' r1 r2)
end Go.Proofs.YtakgfdbjgeopdaaGreatDoor
/-
  Words as numbers of 64 bits, and rows of such words: what the document's own functions reckon with.
-/
namespace Go.Proofs.YtakgfdbjgeopdaaGreatDoor
open Go.RowKit

set_option maxRecDepth 100000 in
theorem sig0_ref (x : BitVec 32) : bits .xor .i64 (bits .xor .i64 (uw (x.rotateRight 7)) (uw (x.rotateRight 18))) (uw x / 8) = uw (sig0 x) := by rw [uw_shr3, uw_xor64, uw_xor64]; rfl
set_option maxRecDepth 100000 in
theorem sig1_ref (x : BitVec 32) : bits .xor .i64 (bits .xor .i64 (uw (x.rotateRight 17)) (uw (x.rotateRight 19))) (uw x / 1024) = uw (sig1 x) := by rw [uw_shr10, uw_xor64, uw_xor64]; rfl
set_option maxRecDepth 100000 in
theorem big1_ref (x : BitVec 32) : bits .xor .i64 (bits .xor .i64 (uw (x.rotateRight 6)) (uw (x.rotateRight 11))) (uw (x.rotateRight 25)) = uw (big1 x) := by rw [uw_xor64, uw_xor64]; rfl
set_option maxRecDepth 100000 in
theorem big0_ref (x : BitVec 32) : bits .xor .i64 (bits .xor .i64 (uw (x.rotateRight 2)) (uw (x.rotateRight 13))) (uw (x.rotateRight 22)) = uw (big0 x) := by rw [uw_xor64, uw_xor64]; rfl

set_option maxRecDepth 100000 in
theorem choice_ref (e f g : BitVec 32) : bits .and .i64 (uw e) (uw f) + bits .and .i64 (4294967295 - uw e) (uw g) = uw (choice e f g) := by
  rw [uw_not, uw_and64, uw_and64]
  have h : (e &&& f) &&& (~~~e &&& g) = 0#32 := by
    ext i hi
    simp
    cases e[i] <;> simp
  unfold uw
  rw [← Int.natCast_add, ← BitVec.toNat_add_of_and_eq_zero h, BitVec.add_eq_or_of_and_eq_zero _ _ h]
  congr 2
  unfold choice
  ext i hi
  simp
  cases e[i] <;> simp
set_option maxRecDepth 100000 in
theorem most_ref (a b c : BitVec 32) : bits .or .i64 (bits .or .i64 (bits .and .i64 (uw a) (uw b)) (bits .and .i64 (uw a) (uw c))) (bits .and .i64 (uw b) (uw c)) = uw (most a b c) := by
  rw [uw_and64, uw_and64, uw_and64, uw_or64, uw_or64]
  congr 1
  unfold most
  ext i hi
  simp
  cases a[i] <;> cases b[i] <;> cases c[i] <;> rfl

set_option maxRecDepth 100000 in
theorem word_ref (a b c d : BitVec 32) (ha : uw a < 256) (hb : uw b < 256) (hc : uw c < 256) (hd : uw d < 256) : 16777216 * uw a + 65536 * uw b + 256 * uw c + uw d = uw (a <<< 24 ||| b <<< 16 ||| c <<< 8 ||| d) := by
  have h1 := (shl_byte a ha).1
  have h2 := (shl_byte b hb).2.1
  have h3 := (shl_byte c hc).2.2
  unfold uw at *
  rw [BitVec.toNat_or, BitVec.toNat_or, BitVec.toNat_or]
  generalize (a <<< 24).toNat = A at *
  generalize (b <<< 16).toNat = B at *
  generalize (c <<< 8).toNat = C at *
  generalize a.toNat = a' at *
  generalize b.toNat = b' at *
  generalize c.toNat = c' at *
  generalize d.toNat = d' at *
  rw [nat_join 24 A B (by omega) (by omega), nat_join 16 (A + B) C (by omega) (by omega), nat_join 8 (A + B + C) d' (by omega) (by omega)]
  omega

end Go.Proofs.YtakgfdbjgeopdaaGreatDoor
/-
  What walks of the document's own words share.
-/
namespace Go.Proofs.YtakgfdbjgeopdaaGreatDoor
open Go.RowKit

theorem word_at (m : Int) (x : BitVec 32) (hm : m % 4294967296 = uw x) (w : World) (h0 : 0 ≤ m) (h1 : m ≤ 9223372036854775807) :
    Calls Tryz.prog 188 #[.int .i64 m] w fun e w' => e = .returned (.int .i64 (uw x)) ∧ w' = w := by
  rw [← hm]
  exact word32_any m w h0 h1

/-- a region that may be walked in several orders, all of which end alike: what follows is walked once -/
theorem region_merge {P : Program} {id : Nat} {ops : Array Oper} {K : Act → World → Prop} {Q : Exit → Act → World → Prop} {a : Act} {w : World} (R : World → Prop) {A : Act}
    (hreg : ∀ K' : Act → World → Prop, Hid (∀ W2, R W2 → K' A W2) → (Code.region id ops true).wp P (Exit.then K' Q) a w) (hrest : ∀ W2, R W2 → K A W2) : (Code.region id ops true).wp P (Exit.then K Q) a w := hreg K hrest

/-- the words ws stand at the head of the row g -/
structure WRow (w : World) (g cap : Nat) (ws : List (BitVec 32)) : Prop where
  ex : ∃ cur, w.heap[g]? = some (.cells cur 3 (0, 0)) ∧ cur.size = cap ∧ ws.length ≤ cap ∧ cur.toList.take ws.length = ws.map iw

theorem WRow.cell {w : World} {g cap : Nat} {ws : List (BitVec 32)} (h : WRow w g cap ws) (i : Nat) (hi : i < ws.length) : w.cell? ⟨g, i, none⟩ = some (.int .i64 (uw (ws.getD i 0#32))) := by
  obtain ⟨cur, hg, hs, hc, ht⟩ := h.ex
  rw [cell_of_row w _ i _ _ _ hg]
  have h1 : (cur.toList.take ws.length)[i]? = (ws.map iw)[i]? := by rw [ht]
  rw [List.getElem?_take, if_pos hi, List.getElem?_map, List.getElem?_eq_getElem hi] at h1
  rw [Array.getElem?_toList] at h1
  rw [h1]
  simp [iw, List.getD, List.getElem?_eq_getElem hi]
theorem WRow.frozen {w : World} {g cap : Nat} {ws : List (BitVec 32)} (h : WRow w g cap ws) (i : Nat) : w.frozen? ⟨g, i, none⟩ = false := by
  obtain ⟨cur, hg, _⟩ := h.ex
  exact frozen_of_row w _ i _ _ hg
theorem WRow.lt {w : World} {g cap : Nat} {ws : List (BitVec 32)} (h : WRow w g cap ws) : g < w.heap.size := by
  obtain ⟨cur, hg, _⟩ := h.ex
  exact (Array.getElem?_eq_some_iff.1 hg).1
theorem WRow.set {w : World} {g cap : Nat} {ws : List (BitVec 32)} (h : WRow w g cap ws) (i : Nat) (_hi : i < ws.length) (x : BitVec 32) : WRow (w.setCell ⟨g, i, none⟩ (.int .i64 (uw x))) g cap (ws.set i x) := by
  obtain ⟨cur, hg, hs, hc, ht⟩ := h.ex
  refine ⟨cur.setIfInBounds i (iw x), ?_, by simp [hs], by simpa using hc, ?_⟩
  · rw [heap_setCell_same _ _ _ _ _ _ hg]; rfl
  · rw [Array.toList_setIfInBounds, List.length_set, List.take_set, ht, List.map_set]
theorem WRow.drewN {w : World} {g cap : Nat} {ws : List (BitVec 32)} (h : WRow w g cap ws) (n : Nat) : WRow (w.drewN n) g cap ws := ⟨h.ex⟩
theorem WRow.drew {w : World} {g cap : Nat} {ws : List (BitVec 32)} (h : WRow w g cap ws) : WRow w.drew g cap ws := ⟨h.ex⟩
theorem WRow.wl {w : World} {g cap : Nat} {ws : List (BitVec 32)} (h : WRow w g cap ws) {n : Nat} (hn : ws.length = n) : Wl w (.slice (some ⟨g, 0, none⟩) n cap) ws := by
  subst hn
  obtain ⟨cur, hg, hs, hc, ht⟩ := h.ex
  exact ⟨g, cap, rfl, h.lt, hc, fun i hi => h.cell i hi⟩
theorem WRow.ofOwns {w : World} {base : Nat} {v : Value} {ws : List (BitVec 32)} (h : w.ownsRow base 3 1 v ws.length (ws.map iw)) (hne : 0 < ws.length) : ∃ g cap, v = .slice (some ⟨g, 0, none⟩) ws.length cap ∧ base ≤ g ∧ WRow w g cap ws := by
  rcases h.2 with ⟨rfl, h0⟩ | ⟨g, cap, cur, rfl, hb, hg, hn, _, hcs, ht⟩
  · omega
  · refine ⟨g, cap, rfl, hb, ⟨cur, hg, by omega, hn, ?_⟩⟩
    rwa [Nat.mul_one] at ht
end Go.Proofs.YtakgfdbjgeopdaaGreatDoor
/-
  The walks of the document's own schedule of a block and its table of roots.
-/
namespace Go.Proofs.YtakgfdbjgeopdaaGreatDoor
open Go.RowKit

def kWs : List (BitVec 32) := (List.range 64).map kAt

set_option maxRecDepth 100000 in
theorem kWs_length : kWs.length = 64 := by simp [kWs]
set_option maxRecDepth 100000 in
theorem kWs_get (i : Nat) (h : i < 64) : kWs.getD i 0#32 = kAt i := by simp [kWs, List.getD, h]

set_option maxHeartbeats 1000000 in
set_option maxRecDepth 100000 in
theorem roots_any (w : World) :
    Calls Tryz.prog 186 #[] w fun e w' => ∃ v', e = .returned v' ∧ Wl w' v' kWs ∧ Below w.heap.size w w' := by
  go_enter Tryz.func186, Tryz.ntmps186
  go_wp2
  go_ret
  refine ⟨_, rfl, Wl.ofRow (e := 3) (q := (0, 0)) (ws := kWs) ((heap_alloc_new w _).trans ?_) kWs_length, (Below.refl _ _).alloc (Nat.le_refl _) _⟩
  rfl

set_option maxRecDepth 100000 in
theorem wrap_div (x : BitVec 32) (d : Int) (hd : 0 < d) : Go.RowKit.wrap64 ((uw x).tdiv d) = uw x / d := by
  have h0 := uw_lo x
  have h1 := uw_hi x
  rw [Int.tdiv_eq_ediv_of_nonneg h0]
  have h2 : 0 ≤ uw x / d := Int.ediv_nonneg h0 (by omega)
  have h3 : uw x / d ≤ uw x := Int.ediv_le_self d h0
  generalize uw x / d = q at h2 h3
  unfold Go.RowKit.wrap64
  omega
set_option maxRecDepth 100000 in
theorem sig0_ref' (x : BitVec 32) : bits .xor .i64 (bits .xor .i64 (uw (x.rotateRight 7)) (uw (x.rotateRight 18))) (Go.RowKit.wrap64 ((uw x).tdiv 8)) = uw (sig0 x) := by rw [wrap_div x 8 (by omega), sig0_ref]
set_option maxRecDepth 100000 in
theorem sig1_ref' (x : BitVec 32) : bits .xor .i64 (bits .xor .i64 (uw (x.rotateRight 17)) (uw (x.rotateRight 19))) (Go.RowKit.wrap64 ((uw x).tdiv 1024)) = uw (sig1 x) := by rw [wrap_div x 1024 (by omega), sig1_ref]

set_option maxRecDepth 100000 in
/-- a callee that draws, in a region that only reads -/
theorem Calls.quiet_of_drew {P : Program} {f : FuncId} {args : Array Value} {w : World} {n : Nat} {v : Value}
    (h : Calls P f args (w.drewN n) fun e w' => e = .returned v ∧ ∃ m, w' = (w.drewN n).drewN m) : Calls P f args (w.drewN n) fun e w'' => e = .returned v ∧ ∃ m, w'' = w.drewN m :=
  h.mono fun _ _ ⟨he, m, hm⟩ => ⟨he, n + m, by rw [hm, World.drewN_drewN]⟩

set_option maxRecDepth 100000 in
theorem turned_at (x : BitVec 32) (k : Int) (w : World) (h0 : 1 ≤ k) (h1 : k ≤ 31) :
    Calls Tryz.prog 187 #[.int .i64 (uw x), .int .i64 k] w fun e w' => e = .returned (.int .i64 (uw (x.rotateRight k.toNat))) ∧ ∃ m, w' = w.drewN m := by
  obtain ⟨n, rfl⟩ : ∃ n : Nat, k = n := ⟨k.toNat, by omega⟩
  exact turned_any x n w (by omega) (by omega)

set_option maxRecDepth 100000 in
/-- a region that may be walked in several orders, all of which end alike but for where a new row lies -/
theorem region_merge2 {P : Program} {id b : Nat} {ops : Array Oper} {K : Act → World → Prop} {Q : Exit → Act → World → Prop} {a : Act} {w : World} (R : Nat → Nat → World → Prop) {A : Nat → Nat → Act}
    (hreg : ∀ K' : Act → World → Prop, Hid (∀ g c W2, R g c W2 → K' (A g c) W2) → (Code.region id ops true).wp P (Exit.inBlock b (Exit.then K' Q)) a w) (hrest : ∀ g c W2, R g c W2 → K (A g c) W2) : (Code.region id ops true).wp P (Exit.inBlock b (Exit.then K Q)) a w := hreg K hrest

set_option maxHeartbeats 4000000 in
set_option maxRecDepth 100000 in
theorem ref_schedule (v : Value) (l : List Int) (w : World) (h : Sl w v l) (hl : l.length = 64) :
    Calls Tryz.prog 185 #[v] w fun e w' => ∃ v', e = .returned v' ∧ Wl w' v' (sched l) ∧ Below w.heap.size w w' := by
  obtain ⟨i0, hi0, hz0, hz1, hz2⟩ := info_parts info3
  obtain ⟨⟨a, cap, rfl, hc, hn, h1⟩, hla, hba⟩ := h
  rcases h1 with rfl | ⟨b, off, rfl, hb, hcell⟩
  · simp at hl
  rw [hl] at hc hla hcell ⊢
  have HL : Hid (l.length = 64) := hl
  have HC : Hid (∀ i, i < 64 → w.cell? ⟨b, off + i, none⟩ = some (.int .u8 (uw (byteW (l.getD i 0))))) := fun i hi => by rw [uw_byte _ (getD_byte hba i)]; exact hcell i hi
  have HB : Hid (∀ i, uw (byteW (l.getD i 0)) < 256) := fun i => by rw [uw_byte _ (getD_byte hba i)]; exact (getD_byte hba i).2
  clear hl hn hcell hba
  go_enter Tryz.func185, Tryz.ntmps185
  go_wp2_with fail
  go_loopw [3, 4] (fun v i wr => ∃ k : Nat, k ≤ 16 ∧ i = .int .i64 k ∧ wr.ownsRow w.heap.size 3 1 v ((sch0 l k).take k).length (((sch0 l k).take k).map iw) ∧ Below w.heap.size w wr) (fun _ i _ => 16 - (intOf i).toNat)
  case atStart => exact ⟨0, by omega, rfl, World.ownsRow_nil _ _ _ _, Below.refl _ _⟩
  case round =>
    obtain ⟨k, hk, rfl, hown, hbel⟩ := hrel
    by_cases hk16 : k < 16
    · have hk16i : (k : Int) < 16 := by omega
      have c0 := (hbel.cell (p := ⟨b, off + (4 * k), none⟩) hb).trans (HC.out (4 * k) (by omega))
      have c1 := (hbel.cell (p := ⟨b, off + (4 * k + 1), none⟩) hb).trans (HC.out (4 * k + 1) (by omega))
      have c2 := (hbel.cell (p := ⟨b, off + (4 * k + 2), none⟩) hb).trans (HC.out (4 * k + 2) (by omega))
      have c3 := (hbel.cell (p := ⟨b, off + (4 * k + 3), none⟩) hb).trans (HC.out (4 * k + 3) (by omega))
      have l0 := HB.out (4 * k)
      have l1 := HB.out (4 * k + 1)
      have l2 := HB.out (4 * k + 2)
      have l3 := HB.out (4 * k + 3)
      have HV : Hid ((sch0 l (k + 1)).take (k + 1) = (sch0 l k).take k ++ [wordOf l k]) := take_set_succ (sch0 l k) k (wordOf l k) (by rw [sch0_length]; omega)
      have hml : ((sch0 l k).take k).length = k := by rw [List.length_take, sch0_length]; omega
      unfold wordOf at HV
      generalize byteW (l.getD (4 * k) 0) = x0 at c0 l0 HV
      generalize byteW (l.getD (4 * k + 1) 0) = x1 at c1 l1 HV
      generalize byteW (l.getD (4 * k + 2) 0) = x2 at c2 l2 HV
      generalize byteW (l.getD (4 * k + 3) 0) = x3 at c3 l3 HV
      have z0 := uw_lo x0
      have z1 := uw_lo x1
      have z2 := uw_lo x2
      have z3 := uw_lo x3
      have HW : Hid (16777216 * uw x0 + 65536 * uw x1 + 256 * uw x2 + uw x3 = uw (x0 <<< 24 ||| x1 <<< 16 ||| x2 <<< 8 ||| x3)) := word_ref x0 x1 x2 x3 l0 l1 l2 l3
      generalize x0 <<< 24 ||| x1 <<< 16 ||| x2 <<< 8 ||| x3 = wd at HV HW
      generalize (sch0 l k).take k = pre at hown HV hml
      rw [hml] at hown
      have hBW := hbel.size
      have n1 : u3.ownBlock ≠ some b := fun e => by have := (hown.lt b e).1; omega
      have hk0i : (0 : Int) ≤ (k : Int) := by omega
      have g0 : (0 : Int) ≤ 4 * (k : Int) := by omega
      have g1 : 4 * (k : Int) < 64 := by omega
      have g2 : (0 : Int) ≤ 4 * (k : Int) + 1 := by omega
      have g3 : 4 * (k : Int) + 1 < 64 := by omega
      have g4 : (0 : Int) ≤ 4 * (k : Int) + 2 := by omega
      have g5 : 4 * (k : Int) + 2 < 64 := by omega
      have g6 : (0 : Int) ≤ 4 * (k : Int) + 3 := by omega
      have g7 : 4 * (k : Int) + 3 < 64 := by omega
      have n0 : (4 * (k : Int)).toNat = 4 * k := by omega
      have n1' : (4 * (k : Int) + 1).toNat = 4 * k + 1 := by omega
      have n2 : (4 * (k : Int) + 2).toNat = 4 * k + 2 := by omega
      have n3 : (4 * (k : Int) + 3).toNat = 4 * k + 3 := by omega
      have wr0 : IntKind.i64.wrap (4 * (k : Int)) = 4 * (k : Int) := by simp only [IntKind.wrap, IntKind.bits, IntKind.signed]; simp; omega
      have wr1 : IntKind.i64.wrap (4 * (k : Int) + 1) = 4 * (k : Int) + 1 := by simp only [IntKind.wrap, IntKind.bits, IntKind.signed]; simp; omega
      have wr2 : IntKind.i64.wrap (4 * (k : Int) + 2) = 4 * (k : Int) + 2 := by simp only [IntKind.wrap, IntKind.bits, IntKind.signed]; simp; omega
      have wr3 : IntKind.i64.wrap (4 * (k : Int) + 3) = 4 * (k : Int) + 3 := by simp only [IntKind.wrap, IntKind.bits, IntKind.signed]; simp; omega
      have wx0 : IntKind.i64.wrap (uw x0) = uw x0 := by simp only [IntKind.wrap, IntKind.bits, IntKind.signed]; simp; omega
      have wx1 : IntKind.i64.wrap (uw x1) = uw x1 := by simp only [IntKind.wrap, IntKind.bits, IntKind.signed]; simp; omega
      have wx2 : IntKind.i64.wrap (uw x2) = uw x2 := by simp only [IntKind.wrap, IntKind.bits, IntKind.signed]; simp; omega
      have wx3 : IntKind.i64.wrap (uw x3) = uw x3 := by simp only [IntKind.wrap, IntKind.bits, IntKind.signed]; simp; omega
      have ws0 : IntKind.i64.wrap (16777216 * uw x0) = 16777216 * uw x0 := by simp only [IntKind.wrap, IntKind.bits, IntKind.signed]; simp; omega
      have ws1 : IntKind.i64.wrap (65536 * uw x1) = 65536 * uw x1 := by simp only [IntKind.wrap, IntKind.bits, IntKind.signed]; simp; omega
      have ws2 : IntKind.i64.wrap (16777216 * uw x0 + 65536 * uw x1) = 16777216 * uw x0 + 65536 * uw x1 := by simp only [IntKind.wrap, IntKind.bits, IntKind.signed]; simp; omega
      have ws3 : IntKind.i64.wrap (256 * uw x2) = 256 * uw x2 := by simp only [IntKind.wrap, IntKind.bits, IntKind.signed]; simp; omega
      have ws4 : IntKind.i64.wrap (16777216 * uw x0 + 65536 * uw x1 + 256 * uw x2) = 16777216 * uw x0 + 65536 * uw x1 + 256 * uw x2 := by simp only [IntKind.wrap, IntKind.bits, IntKind.signed]; simp; omega
      have ws5 : IntKind.i64.wrap (16777216 * uw x0 + 65536 * uw x1 + 256 * uw x2 + uw x3) = 16777216 * uw x0 + 65536 * uw x1 + 256 * uw x2 + uw x3 := by simp only [IntKind.wrap, IntKind.bits, IntKind.signed]; simp; omega
      have HNW0 := World.new_ne wr _ c0
      have HNW1 := World.new_ne wr _ c1
      have HNW2 := World.new_ne wr _ c2
      have HNW3 := World.new_ne wr _ c3
      go_wp2_with fail
      go_region_held3 (fun w' => w'.cell? ⟨b, off + (4 * k), none⟩ = some (.int .u8 (uw x0)) ∧ w'.cell? ⟨b, off + (4 * k + 1), none⟩ = some (.int .u8 (uw x1)) ∧ w'.cell? ⟨b, off + (4 * k + 2), none⟩ = some (.int .u8 (uw x2)) ∧ w'.cell? ⟨b, off + (4 * k + 3), none⟩ = some (.int .u8 (uw x3)))
        (first
          | go_keep
          | (go_split_ands
             refine ⟨?_, ?_, ?_, ?_⟩
             · (rw [hgrow.cell_far _ (by simp; omega) (Ne.symm n1)]; assumption)
             · (rw [hgrow.cell_far _ (by simp; omega) (Ne.symm n1)]; assumption)
             · (rw [hgrow.cell_far _ (by simp; omega) (Ne.symm n1)]; assumption)
             · (rw [hgrow.cell_far _ (by simp; omega) (Ne.symm n1)]; assumption)))
        ((refine step_append_lies _ (by rfl) _ _ _ (by rfl) w.heap.size 3 i0 _ 1 8 Tryz.underlying88 hi0 hz0 hz1 hz2 rfl (by omega) u3 k (pre.map iw) (by rfl) ((hown.alloc _).drew)
            ⟨wr.heap.size, 0, none⟩ 1 1 [.int .i64 (16777216 * uw x0 + 65536 * uw x1 + 256 * uw x2 + uw x3)] (by rfl) (by rfl) (World.news_of_block (cs := #[.int .i64 (16777216 * uw x0 + 65536 * uw x1 + 256 * uw x2 + uw x3)]) (t := 3) (fr := (0, 0)) (heap_alloc_new wr _)) (by simp [Value.oneCell'])
            (by omega) (by unfold maxLen; omega) (by omega) (by simp; omega) (wr.heap.size + 1) (by simp) ?_; intro gg cap2 wn hown1 hgrow hat hlt2))
      have bA : Below wr.heap.size wr ((wr.alloc (.cells #[.int .i64 (16777216 * uw x0 + 65536 * uw x1 + 256 * uw x2 + uw x3)] 3)).drew) := ((Below.refl _ _).alloc (Nat.le_refl _) _).drew
      have hb' : Below w.heap.size w wn := (hbel.trans (bA.mono hBW)).grown hgrow (by have := bA.size; omega) (fun k hk => (hown.lt k hk).1)
      have ho' : wn.ownsRow w.heap.size 3 1 (.slice (some ⟨gg, 0, none⟩) (k + 1) cap2) ((sch0 l (k + 1)).take (k + 1)).length (((sch0 l (k + 1)).take (k + 1)).map iw) := by
        rw [HV.out]
        rw [show (16777216 : Int) * uw x0 + 65536 * uw x1 + 256 * uw x2 + uw x3 = uw wd by have := HW.out; omega] at hown1
        simpa [hml, iw] using hown1
      clear hown1 hgrow hat hlt2 hown hbel HNW0 HNW1 HNW2 HNW3 wr0 wr1 wr2 wr3 wx0 wx1 wx2 wx3 ws0 ws1 ws2 ws3 ws4 ws5
      go_wp2
      go_roundw
      case rel => exact ⟨k + 1, by omega, by go_num, ho', hb'⟩
      case measure => simp [intOf]; omega
    · have hk16i : ¬ (k : Int) < 16 := by omega
      obtain rfl : k = 16 := by omega
      clear HC HB
      have hown0 : wr.ownsRow w.heap.size 3 1 u3 ((sch1 l 0).take 16).length (((sch1 l 0).take 16).map iw) := hown
      clear hown
      go_wp2_with fail
      go_loopw [3, 5] (fun v i wr => ∃ k : Nat, k ≤ 48 ∧ i = .int .i64 (16 + (k : Int)) ∧ wr.ownsRow w.heap.size 3 1 v ((sch1 l k).take (16 + k)).length (((sch1 l k).take (16 + k)).map iw) ∧ Below w.heap.size w wr) (fun _ i _ => 64 - (intOf i).toNat)
      case atStart => exact ⟨0, by omega, rfl, hown0, hbel⟩
      case round =>
        clear hown0 hbel
        obtain ⟨k, hk48, rfl, hown, hbel⟩ := hrel
        have hlen : ((sch1 l k).take (16 + k)).length = 16 + k := by rw [List.length_take, sch1_length]; omega
        obtain ⟨g, cap2, hv, hgB, hrow⟩ := WRow.ofOwns hown (by rw [hlen]; omega)
        rw [hlen] at hv
        subst hv
        by_cases hlt48 : k < 48
        · have hlt48i : (k : Int) < 48 := by omega
          have hget : ∀ j, j < 16 + k → ((sch1 l k).take (16 + k)).getD j 0#32 = (sch1 l k).getD j 0#32 := fun j hj => by simp [List.getD, hj]
          have c16 := hrow.cell k (by rw [hlen]; omega)
          have c15 := hrow.cell (16 + k - 15) (by rw [hlen]; omega)
          have c7 := hrow.cell (16 + k - 7) (by rw [hlen]; omega)
          have c2 := hrow.cell (16 + k - 2) (by rw [hlen]; omega)
          rw [hget k (by omega)] at c16
          rw [hget (16 + k - 15) (by omega)] at c15
          rw [hget (16 + k - 7) (by omega)] at c7
          rw [hget (16 + k - 2) (by omega)] at c2
          have HV : Hid ((sch1 l (k + 1)).take (16 + k + 1) = (sch1 l k).take (16 + k) ++ [nextW (sch1 l k) (16 + k)]) := take_set_succ (sch1 l k) (16 + k) _ (by rw [sch1_length]; omega)
          unfold nextW at HV
          have e16 : 16 + k - 16 = k := by omega
          rw [e16] at HV
          generalize (sch1 l k).getD k 0#32 = x16 at c16 HV
          generalize (sch1 l k).getD (16 + k - 15) 0#32 = x15 at c15 HV
          generalize (sch1 l k).getD (16 + k - 7) 0#32 = x7 at c7 HV
          generalize (sch1 l k).getD (16 + k - 2) 0#32 = x2 at c2 HV
          clear hget e16
          have n15 := uw_lo x15
          have n2 := uw_lo x2
          go_wp2_with fail
          go_quiet ((go_at_call 187; exact Calls.quiet_of_drew (turned_at _ _ _ (by omega) (by omega))))
          rw [sig0_ref']
          generalize sig0 x15 = t0 at HV ⊢
          replace hown : (wr.drewN nq).ownsRow _ _ _ _ _ _ := hown
          replace hbel := below_drewN hbel nq
          replace c16 : (wr.drewN nq).cell? _ = _ := c16
          replace c7 : (wr.drewN nq).cell? _ = _ := c7
          replace c2 : (wr.drewN nq).cell? _ = _ := c2
          clear c15 n15 hrow
          generalize wr.drewN nq = W1 at hown hbel c16 c7 c2 ⊢
          go_wp2_with fail
          go_quiet ((go_at_call 187; exact Calls.quiet_of_drew (turned_at _ _ _ (by omega) (by omega))))
          rw [sig1_ref']
          generalize sig1 x2 = t1 at HV ⊢
          replace hown : (W1.drewN nq).ownsRow _ _ _ _ _ _ := hown
          replace hbel := below_drewN hbel nq
          replace c16 : (W1.drewN nq).cell? _ = _ := c16
          replace c7 : (W1.drewN nq).cell? _ = _ := c7
          clear c2 n2
          generalize W1.drewN nq = W2 at hown hbel c16 c7 ⊢
          have a16 := uw_lo x16
          have b16 := uw_hi x16
          have a7 := uw_lo x7
          have b7 := uw_hi x7
          have at0 := uw_lo t0
          have bt0 := uw_hi t0
          have at1 := uw_lo t1
          have bt1 := uw_hi t1
          rw [hlen] at hown
          have hBW := hbel.size
          have m16 : (16 + (k : Int) - 16) = (k : Int) := by omega
          have wk : IntKind.i64.wrap (k : Int) = (k : Int) := by simp only [IntKind.wrap, IntKind.bits, IntKind.signed]; simp; omega
          have w7 : IntKind.i64.wrap (16 + (k : Int) - 7) = 16 + (k : Int) - 7 := by simp only [IntKind.wrap, IntKind.bits, IntKind.signed]; simp; omega
          have k0 : (0 : Int) ≤ (k : Int) := by omega
          have k1 : (k : Int) < 16 + (k : Int) := by omega
          have k2 : (0 : Int) ≤ 16 + (k : Int) - 7 := by omega
          have k3 : 16 + (k : Int) - 7 < 16 + (k : Int) := by omega
          have k4 : (16 + (k : Int) - 7).toNat = 16 + k - 7 := by omega
          have k5 : (7 : Int) ≤ 16 + (k : Int) := by omega
          have wz1 : IntKind.i64.wrap (uw x16 + uw t0) = uw x16 + uw t0 := by simp only [IntKind.wrap, IntKind.bits, IntKind.signed]; simp; omega
          have wz2 : IntKind.i64.wrap (uw x16 + uw t0 + uw x7) = uw x16 + uw t0 + uw x7 := by simp only [IntKind.wrap, IntKind.bits, IntKind.signed]; simp; omega
          have wz3 : IntKind.i64.wrap (uw x16 + uw t0 + uw x7 + uw t1) = uw x16 + uw t0 + uw x7 + uw t1 := by simp only [IntKind.wrap, IntKind.bits, IntKind.signed]; simp; omega
          generalize (sch1 l k).take (16 + k) = pre at hown HV hlen
          go_wp2_with fail
          apply region_merge2 (fun g c Wn => Wn.ownsRow w.heap.size 3 1 (.slice (some ⟨g, 0, none⟩) (16 + k + 1) c) (pre ++ [x16 + t0 + x7 + t1]).length ((pre ++ [x16 + t0 + x7 + t1]).map iw) ∧ Below w.heap.size w Wn)
          · intro K2 HK2
            go_region_law ((first
              | (refine step_append_lies _ (by rfl) _ _ _ (by rfl) w.heap.size 3 i0 _ 1 8 Tryz.underlying88 hi0 hz0 hz1 hz2 rfl (by omega) _ (16 + k) (pre.map iw) (by rfl) ((hown.alloc _).drew)
                  ⟨W2.heap.size, 0, none⟩ 1 1 [.int .i64 (uw (x16 + t0 + x7 + t1))] (by rfl) (by rfl) (World.news_of_block (cs := #[.int .i64 (uw (x16 + t0 + x7 + t1))]) (t := 3) (fr := (0, 0)) (heap_alloc_new W2 _)) (by simp [Value.oneCell'])
                  (by omega) (by unfold maxLen; omega) (by omega) (by simp; omega) (W2.heap.size + 1) (by simp) ?_; intro gg cc wn hown1 hgrow hat hlt2)
              | (go_simp; go_at_call 188; refine (word_at _ (x16 + t0 + x7 + t1) (uw_sum4 _ _ _ _) _ (by omega) (by omega)).mono ?_; rintro e w' ⟨rfl, rfl⟩; dsimp only)))
            all_goals
              have bA : Below W2.heap.size W2 ((W2.alloc (.cells #[.int .i64 (uw (x16 + t0 + x7 + t1))] 3)).drew) := ((Below.refl _ _).alloc (Nat.le_refl _) _).drew
              exact HK2.out gg cc wn ⟨by simpa [hlen, iw] using hown1, (hbel.trans (bA.mono hBW)).grown hgrow (by have := bA.size; omega) (fun k hk => (hown.lt k hk).1)⟩
          intro gg cc Wn hR
          obtain ⟨ho', hb'⟩ := hR
          clear wk w7 k0 k1 k2 k3 k4 k5 wz1 wz2 wz3 m16
          go_wp2
          go_roundw
          case rel => exact ⟨k + 1, by omega, by go_num, by rw [show 16 + (k + 1) = 16 + k + 1 from rfl, HV.out]; exact ho', hb'⟩
          case measure => simp [intOf]; omega
        · have hlt48i : ¬ (k : Int) < 48 := by omega
          have h64i : ¬ 16 + (k : Int) < 64 := by omega
          have HK : Hid ((sch1 l k).take (16 + k) = sched l) := by
            unfold Hid
            rw [show k = 48 by omega]
            exact List.take_of_length_le (by rw [sch1_length]; omega)
          have HLS := sched_length l
          rw [HK.out] at hrow
          clear hown
          go_wp2
          go_ret
          refine ⟨_, rfl, ?_, hbel⟩
          exact hrow.wl (by rw [HLS]; omega)
end Go.Proofs.YtakgfdbjgeopdaaGreatDoor
