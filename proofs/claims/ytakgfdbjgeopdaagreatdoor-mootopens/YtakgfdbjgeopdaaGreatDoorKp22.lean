/-
  The walks of the heads of records: a number's head, a head's number and nonce, a record that is cut; and of bytes that are cloned.
-/
import Derived.Lib.LazyBuf
import Derived.Laws.CopyOwn
import Derived.Test.YtakgfdbjgeopdaaGreatDoorKp8
import Derived.Test.YtakgfdbjgeopdaaGreatDoorKp5
import Derived.Test.YtakgfdbjgeopdaaGreatDoorKp2
import Derived.Test.YtakgfdbjgeopdaaGreatDoorKp18
namespace Go.Proofs.YtakgfdbjgeopdaaGreatDoor
open Go.RowKit
set_option linter.unusedVariables false

theorem Sl.one2H (w : World) (b b' : Int) (e : TypeId) {g : Nat} (hg : g = w.heap.size) (hb : 0 ≤ b ∧ b < 256) (he : b' = b) : Sl (w.alloc (.cells #[.int .u8 b'] e)) (.slice (some ⟨g, 0, none⟩) 1 1) [b] := by
  subst he; exact Sl.one w b' e hg hb

theorem eq_nil22 (a : Option Addr) (n c : Nat) : ∀ w, (binOp .eql 26 (.slice a n c) (.slice none 0 0)).run Tryz.prog w = .ok (.bool a.isNone) w :=
  fun w => run_eql_slice_nil (P := Tryz.prog) w 26 5 a n c Tryz.underlying26

theorem owns_keepH {w w' : World} {base e : Nat} {v : Value} {n : Nat} {xs : List Value} (h : w.ownsRow base e 1 v n xs) (hk : ∀ k, v.ownBlock = some k → w'.heap[k]? = w.heap[k]?) : w'.ownsRow base e 1 v n xs := by
  refine ⟨h.1, ?_⟩
  rcases h.2 with h2 | ⟨g, cap, cur, hv, hb, hg, hr⟩
  · exact .inl h2
  · exact .inr ⟨g, cap, cur, hv, hb, (hk g (by rw [hv]; rfl)).trans hg, hr⟩

set_option maxRecDepth 100000 in
theorem clone_any (v : Value) (l : List Int) (w : World) (h : Sl w v l) :
    Calls Tryz.prog 48 #[v] w fun e w' => ∃ v', e = .returned v' ∧ w'.ownsRow w.heap.size 5 1 v' l.length (l.map (Value.int .u8)) ∧ Below w.heap.size w w' := by
  have hs := h
  have hl := h.len
  obtain ⟨⟨a, cap, rfl, hc, hn, h1⟩, h2, h3⟩ := h
  cases a with
  | none =>
    obtain rfl := hn rfl
    obtain rfl : l = [] := List.eq_nil_of_length_eq_zero (by omega)
    have hq := eq_nil22 none 0 0
    go_enter Tryz.func48, Tryz.ntmps48
    go_wp2
    go_ret
    exact ⟨_, rfl, World.ownsRow_nil _ _ _ _, Below.refl _ _⟩
  | some ad =>
    have ho0 : (w.alloc (.cells #[] 5)).ownsRow w.heap.size 5 1 (.slice (some ⟨w.heap.size, 0, none⟩) 0 0) ([] : List Int).length (([] : List Int).map (Value.int .u8)) := by
      refine ⟨rfl, .inr ⟨w.heap.size, 0, #[], rfl, Nat.le_refl _, heap_alloc_new _ _, Nat.le_refl _, Nat.zero_le _, rfl, rfl⟩⟩
    have hq := eq_nil22 (some ad) l.length cap
    have hs1 := hs.below ((Below.refl w.heap.size w).alloc (Nat.le_refl _) (.cells #[] 5))
    go_enter Tryz.func48, Tryz.ntmps48
    go_wp2_with (at_builtin; refine wpList_append_sl _ rfl _ _ 26 rfl w.heap.size 5 Tryz.underlying26 info5 _ _ rfl rfl [] l ho0 hs1 (by simp; omega) (by simp) ?_)
    intro v' w' ho hg
    have hb2 : Below w.heap.size w w' := ((Below.refl w.heap.size w).alloc (Nat.le_refl _) (.cells #[] 5)).grown hg (by simp) (fun k hk => (ho0.lt k hk).1)
    go_wp2
    go_ret
    exact ⟨v', rfl, by simpa using ho, hb2⟩

set_option maxHeartbeats 1000000 in
set_option maxRecDepth 100000 in
theorem headOf_any (n : Int) (w : World) (n0 : 0 ≤ n) (n1 : n < 1073741824) :
    Calls Tryz.prog 88 #[.int .i64 n] w fun e w' => ∃ v', e = .returned v' ∧ w'.ownsRow w.heap.size 5 1 v' (headL n).length ((headL n).map (Value.int .u8)) ∧ Below w.heap.size w w' := by
  go_enter Tryz.func88, Tryz.ntmps88
  go_wp2_with fail
  go_loopw [3, 4] (fun v iv wr => ∃ j : Nat, j ≤ 4 ∧ iv = .int .i64 (3 - (j : Int)) ∧ wr.ownsRow w.heap.size 5 1 v ((headL n).take j).length (((headL n).take j).map (Value.int .u8)) ∧ Below w.heap.size w wr) (fun _ iv _ => (intOf iv + 1).toNat)
  case atStart => exact ⟨0, by omega, rfl, World.ownsRow_nil _ _ _ _, Below.refl _ _⟩
  case round =>
    obtain ⟨j, hj, rfl, hown, hbel⟩ := hrel
    have hlt := hown.lt
    have hz := hbel.size
    by_cases hj4 : j < 4
    · have : j = 0 ∨ j = 1 ∨ j = 2 ∨ j = 3 := by omega
      rcases this with rfl | rfl | rfl | rfl
      · rw [show (3 : Int) - ((0 : Nat) : Int) = 3 from rfl]
        go_wp2_with (at_builtin; refine wpList_append_sl _ rfl _ _ 26 rfl w.heap.size 5 Tryz.underlying26 info5 _ _ rfl rfl ((headL n).take 0) [n / 16777216 % 256] (hown.alloc _) (Sl.one2H _ (n / 16777216 % 256) _ _ rfl (by omega) (by omega)) (by simp [headL]) (by simp; omega) ?_)
        intro v2 w2 ho2 hg2
        have hb2 : Below w.heap.size w w2 := (hbel.alloc (by omega) _).grown hg2 (by simp; omega) (fun k hk => (hlt k hk).1)
        have HO2 : Hid (w2.ownsRow w.heap.size 5 1 v2 ((headL n).take 1).length (((headL n).take 1).map (Value.int .u8))) := ho2
        clear ho2 hg2 hown hlt hbel
        go_wp2
        go_roundw
        case rel => exact ⟨1, by omega, rfl, HO2.out, hb2⟩
        case measure => simp [intOf]
      · rw [show (3 : Int) - ((1 : Nat) : Int) = 2 from rfl]
        go_wp2_with (at_builtin; refine wpList_append_sl _ rfl _ _ 26 rfl w.heap.size 5 Tryz.underlying26 info5 _ _ rfl rfl ((headL n).take 1) [n / 65536 % 256] (hown.alloc _) (Sl.one2H _ (n / 65536 % 256) _ _ rfl (by omega) (by omega)) (by simp [headL]) (by simp; omega) ?_)
        intro v2 w2 ho2 hg2
        have hb2 : Below w.heap.size w w2 := (hbel.alloc (by omega) _).grown hg2 (by simp; omega) (fun k hk => (hlt k hk).1)
        have HO2 : Hid (w2.ownsRow w.heap.size 5 1 v2 ((headL n).take 2).length (((headL n).take 2).map (Value.int .u8))) := ho2
        clear ho2 hg2 hown hlt hbel
        go_wp2
        go_roundw
        case rel => exact ⟨2, by omega, rfl, HO2.out, hb2⟩
        case measure => simp [intOf]
      · rw [show (3 : Int) - ((2 : Nat) : Int) = 1 from rfl]
        go_wp2_with (at_builtin; refine wpList_append_sl _ rfl _ _ 26 rfl w.heap.size 5 Tryz.underlying26 info5 _ _ rfl rfl ((headL n).take 2) [n / 256 % 256] (hown.alloc _) (Sl.one2H _ (n / 256 % 256) _ _ rfl (by omega) (by omega)) (by simp [headL]) (by simp; omega) ?_)
        intro v2 w2 ho2 hg2
        have hb2 : Below w.heap.size w w2 := (hbel.alloc (by omega) _).grown hg2 (by simp; omega) (fun k hk => (hlt k hk).1)
        have HO2 : Hid (w2.ownsRow w.heap.size 5 1 v2 ((headL n).take 3).length (((headL n).take 3).map (Value.int .u8))) := ho2
        clear ho2 hg2 hown hlt hbel
        go_wp2
        go_roundw
        case rel => exact ⟨3, by omega, rfl, HO2.out, hb2⟩
        case measure => simp [intOf]
      · rw [show (3 : Int) - ((3 : Nat) : Int) = 0 from rfl]
        go_wp2_with (at_builtin; refine wpList_append_sl _ rfl _ _ 26 rfl w.heap.size 5 Tryz.underlying26 info5 _ _ rfl rfl ((headL n).take 3) [n % 256] (hown.alloc _) (Sl.one2H _ (n % 256) _ _ rfl (by omega) (by omega)) (by simp [headL]) (by simp; omega) ?_)
        intro v2 w2 ho2 hg2
        have hb2 : Below w.heap.size w w2 := (hbel.alloc (by omega) _).grown hg2 (by simp; omega) (fun k hk => (hlt k hk).1)
        have HO2 : Hid (w2.ownsRow w.heap.size 5 1 v2 ((headL n).take 4).length (((headL n).take 4).map (Value.int .u8))) := ho2
        clear ho2 hg2 hown hlt hbel
        go_wp2
        go_roundw
        case rel => exact ⟨4, by omega, rfl, HO2.out, hb2⟩
        case measure => simp [intOf]
    · obtain rfl : j = 4 := by omega
      rw [show (3 : Int) - ((4 : Nat) : Int) = -1 from rfl]
      have HO : Hid _ := hown
      clear hown hlt
      go_wp2
      go_ret
      exact ⟨_, rfl, HO.out, hbel⟩

theorem or_byte (x b : Int) (hx : 0 ≤ x ∧ x < 36028797018963968) (hb : 0 ≤ b ∧ b < 256) : bits .or .i64 (x * 256) b = x * 256 + b := by
  obtain ⟨x, rfl⟩ := Int.eq_ofNat_of_zero_le hx.1
  obtain ⟨y, rfl⟩ := Int.eq_ofNat_of_zero_le hb.1
  have e : (x : Int) * 256 = ((x * 256 : Nat) : Int) := by omega
  have key : (BitVec.ofInt 64 ((x * 256 : Nat) : Int) ||| BitVec.ofInt 64 (y : Int)).toNat = x * 256 + y := by
    rw [BitVec.toNat_or, BitVec.toNat_ofInt, BitVec.toNat_ofInt]
    have h1 : ((y : Int) % ((2 ^ 64 : Nat) : Int)).toNat = y := by omega
    have h2 : (((x * 256 : Nat) : Int) % ((2 ^ 64 : Nat) : Int)).toNat = 2 ^ 8 * x := by omega
    rw [h1, h2, ← Nat.two_pow_add_eq_or_of_lt (by omega : y < 2 ^ 8)]
    omega
  rw [e]
  show IntKind.i64.wrap ((BitVec.ofInt 64 ((x * 256 : Nat) : Int) ||| BitVec.ofInt 64 (y : Int)).toNat : Nat) = _
  rw [key, IntKind.wrap_i64]
  omega

/-- a head's number, of its first k bytes -/
def numK (h : List Int) : Nat → Int
  | 0 => 0
  | k + 1 => numK h k * 256 + h.getD k 0
theorem numK_range {h : List Int} (hb : ∀ x ∈ h, 0 ≤ x ∧ x < 256) (k : Nat) : 0 ≤ numK h k ∧ numK h k < 256 ^ k := by
  induction k with
  | zero => simp [numK]
  | succ k ih =>
    have := getD_byte hb k
    rw [numK, Int.pow_succ]
    omega

theorem Sl.spotH {w : World} {a : Option Addr} {n cap : Nat} {l : List Int} (h : Sl w (.slice a n cap) l) (k : Nat) (hk : k < l.length) : ∃ bd od, a = some ⟨bd, od, none⟩ ∧ bd < w.heap.size ∧ w.cell? ⟨bd, od + k, none⟩ = some (.int .u8 (l.getD k 0)) := by
  obtain ⟨⟨a', cap', e, hc, hn, h1⟩, hla, hba⟩ := h
  simp only [Value.slice.injEq] at e
  obtain ⟨rfl, rfl, rfl⟩ := e
  rcases h1 with rfl | ⟨b, off, rfl, hb, hcell⟩
  · simp at hk
  · exact ⟨b, off, rfl, hb, hcell k hk⟩

set_option maxHeartbeats 1000000 in
set_option maxRecDepth 100000 in
theorem numberOf_any (v : Value) (l : List Int) (w : World) (h : Sl w v l) (hl : l.length = 4) :
    Calls Tryz.prog 196 #[v] w fun e w' => e = .returned (.int .i64 (numL l)) ∧ w' = w := by
  have HN : Hid (numK l 4 = numL l) := by
    unfold Hid
    show ((((0 : Int) * 256 + l.getD 0 0) * 256 + l.getD 1 0) * 256 + l.getD 2 0) * 256 + l.getD 3 0 = _
    unfold numL
    omega
  have HB : Hid (∀ x ∈ l, 0 ≤ x ∧ x < 256) := h.byte
  have hs := h
  obtain ⟨a, c, rfl⟩ := h.shape
  rw [hl] at hs ⊢
  go_enter Tryz.func196, Tryz.ntmps196
  go_wp2_with fail
  go_loopw [3, 8] (fun v iv wr => ∃ j : Nat, j ≤ 4 ∧ iv = .int .i64 (j : Int) ∧ v = .int .i64 (numK l j) ∧ wr = w) (fun _ iv _ => (4 - intOf iv).toNat)
  case atStart => exact ⟨0, by omega, rfl, rfl, rfl⟩
  case round =>
    obtain ⟨j, hj, rfl, rfl, rfl⟩ := hrel
    by_cases hj4 : j < 4
    · have hii : (j : Int) < 4 := by omega
      have hx := numK_range HB.out j
      have hx2 : numK l j < 16777216 := by
        have : (256 : Int) ^ j ≤ 256 ^ 3 := by
          rcases (by omega : j = 0 ∨ j = 1 ∨ j = 2 ∨ j = 3) with rfl | rfl | rfl | rfl <;> decide
        omega
      have hb := getD_byte HB.out j
      obtain ⟨bd, od, rfl, hbd, hc⟩ := hs.spotH j (by omega)
      have hor := or_byte (numK l j) (l.getD j 0) ⟨hx.1, by omega⟩ hb
      have HK : Hid (numK l j * 256 + l.getD j 0 = numK l (j + 1)) := rfl
      have hx1 := hx.1
      clear hx h hs
      generalize numK l j = X at hx1 hx2 hor HK
      generalize l.getD j 0 = B at hb hc hor HK
      go_wp2
      go_roundw
      case rel => exact ⟨j + 1, by omega, by go_num, by rw [← HK.out], trivial⟩
      case measure => simp [intOf]; omega
    · obtain rfl : j = 4 := by omega
      rw [show ((4 : Nat) : Int) = 4 from rfl, HN.out]
      go_wp2
      go_ret
      exact ⟨rfl, rfl⟩

def zer12 : Array Value := (List.replicate 12 (Value.int .u8 0)).toArray
theorem make8 (w : World) : (Instr.makeSlice 26 (.int .i64 8) (.int .i64 12)).run Tryz.prog w = .ok (.slice (some ⟨w.heap.size, 0, none⟩) 8 12) (w.alloc (.cells zer12 5)) := by
  obtain ⟨i, hi, hz, hsz, hby⟩ := info_parts info5
  rw [run_makeSlice (P := Tryz.prog) w 26 5 i (.int .u8 0) Tryz.underlying26 hi hz .i64 .i64 8 12 (by omega) (by omega) (by rw [hsz]; decide) (by rw [hby]; decide) (by omega), hsz]
  have e : madeCells (Value.int .u8 0).cells ((12 : Int).toNat * 1) = zer12 := by kernel_rfl
  rw [e]
  rfl

set_option maxHeartbeats 1000000 in
set_option maxRecDepth 100000 in
theorem nonceOf_any (v : Value) (l : List Int) (w : World) (h : Sl w v l) (hl : l.length = 4) :
    Calls Tryz.prog 90 #[v] w fun e w' => ∃ v', e = .returned v' ∧ Sl w' v' (nonceL l) ∧ Below w.heap.size w w' := by
  have HB : Hid (∀ x ∈ nonceL l, 0 ≤ x ∧ x < 256) := nonceL_byte h.byte
  have HL : Hid ((nonceL l).length = 12) := nonceL_length hl
  have hmk := make8 w
  have ho0 : (w.alloc (.cells zer12 5)).ownsRow w.heap.size 5 1 (.slice (some ⟨w.heap.size, 0, none⟩) 8 12) (List.replicate 8 (0 : Int)).length ((List.replicate 8 (0 : Int)).map (Value.int .u8)) :=
    ⟨rfl, .inr ⟨w.heap.size, 12, zer12, rfl, Nat.le_refl _, heap_alloc_new _ _, by decide, by simp [maxLen], rfl, rfl⟩⟩
  have b0 : Below w.heap.size w (w.alloc (.cells zer12 5)) := (Below.refl w.heap.size w).alloc (Nat.le_refl _) _
  have hs1 := h.below b0
  have hz : w.heap.size ≤ (w.alloc (.cells zer12 5)).heap.size := b0.size
  generalize w.alloc (.cells zer12 5) = W at hmk ho0 b0 hs1 hz
  go_enter Tryz.func90, Tryz.ntmps90
  go_wp2_with (at_builtin; refine wpList_append_sl _ rfl _ _ 26 rfl w.heap.size 5 Tryz.underlying26 info5 _ _ rfl rfl (List.replicate 8 0) l ho0 hs1 (by simp; omega) hz ?_)
  intro v' w' ho hg
  have hb2 : Below w.heap.size w w' := b0.grown hg hz (fun k hk => (ho0.lt k hk).1)
  have HO : Hid (w'.ownsRow w.heap.size 5 1 v' (nonceL l).length ((nonceL l).map (Value.int .u8))) := by
    unfold Hid
    rw [HL.out]
    exact ho
  clear ho hg ho0 hs1 hmk
  go_wp2
  go_ret
  exact ⟨v', rfl, Sl.ofOwns HO.out (by rw [HL.out]; omega) HB.out, hb2⟩

theorem Sl.first {w : World} {a : Option Addr} {n cap : Nat} {l : List Int} (h : Sl w (.slice a n cap) l) (m : Nat) (hm : m ≤ l.length) (h0 : 0 < m) : Sl w (.slice (a.map (·.add 0)) m m) (l.take m) := by
  obtain ⟨⟨a', cap', e, hc, hn, h1⟩, hla, hba⟩ := h
  simp only [Value.slice.injEq] at e
  obtain ⟨rfl, rfl, rfl⟩ := e
  have hl : (l.take m).length = m := by rw [List.length_take]; omega
  rcases h1 with rfl | ⟨b, off, rfl, hb, hcell⟩
  · simp at hm; omega
  · have hadd : (⟨b, off, none⟩ : Addr).add 0 = ⟨b, off, none⟩ := by unfold Addr.add; simp
    refine ⟨⟨some ⟨b, off, none⟩, m, by rw [hl, Option.map_some, hadd], by omega, by simp, .inr ⟨b, off, rfl, hb, fun i hi => ?_⟩⟩, by omega, fun x hx => hba x (List.mem_of_mem_take hx)⟩
    rw [hcell i (by omega), getD_at (by omega), getD_at hi]
    simp

set_option maxRecDepth 100000 in
theorem cut_four (a : Option Addr) (n cap : Nat) (hc : 4 ≤ cap) : ∀ W, (Instr.slice 26 (.slice a n cap) none (some (.int .i64 4)) (some (.int .i64 4))).run Tryz.prog W = .ok (.slice (a.map (·.add 0)) 4 4) W := by
  intro W
  rw [run_slice_hm (P := Tryz.prog) W 26 a n cap Tryz.underlying26 .i64 .i64 4 4 (by omega) (by omega) (by omega)]
  have e : Tryz.prog.elem 26 = 5 := by kernel_rfl
  rw [e, size5w]
  simp [Result.andThen, sliced]

set_option maxHeartbeats 1000000 in
set_option maxRecDepth 100000 in
theorem cut_any (v : Value) (l : List Int) (w : World) (h : Sl w v l) (hl : 4 ≤ l.length) :
    Calls Tryz.prog 195 #[v] w fun e w' => ∃ va vb, e = .returned (.tuple #[va, vb]) ∧ Sl w' va (l.take 4) ∧ Sl w' vb (l.drop 4) ∧ Below w.heap.size w w' := by
  obtain ⟨a, c, rfl⟩ := h.shape
  have hc : l.length ≤ c := by
    obtain ⟨⟨a', cap', e, hc, _⟩, _⟩ := h
    simp only [Value.slice.injEq] at e
    omega
  obtain ⟨a2, c2, r2', s2⟩ := h.from 4 hl
  have r2 : ∀ W, (Instr.slice 26 (.slice a l.length c) (some (.int .i64 4)) none none).run Tryz.prog W = .ok (.slice a2 (l.length - 4) c2) W := r2'
  have r1 := cut_four a l.length c (by omega)
  have s1 := h.first 4 hl (by omega)
  clear r2'
  generalize l.length - 4 = n2 at r2 s2
  generalize a.map (·.add 0) = a1 at r1 s1
  go_enter Tryz.func195, Tryz.ntmps195
  go_wp2_with fail
  go_quiet (fail)
  have e1 : Below w.heap.size w (w.drewN nq) := below_drewN (Below.refl _ _) nq
  generalize w.drewN nq = w1 at e1 ⊢
  go_wp2
  go_ret2
  exact ⟨_, _, rfl, s1.below e1, s2.below e1, e1⟩
end Go.Proofs.YtakgfdbjgeopdaaGreatDoor
/-
  The walks of Check and New.
-/
namespace Go.Proofs.YtakgfdbjgeopdaaGreatDoor
open Go.RowKit
set_option linter.unusedVariables false

theorem counted_any (n : Int) (w : World) :
    Calls Tryz.prog 133 #[.int .i64 n] w fun e w' => e = .returned (.bool (decide (0 ≤ n ∧ n ≤ 1073741824))) ∧ w' = w := by
  by_cases h0 : 0 ≤ n
  · by_cases h1 : n ≤ 1073741824
    · rw [decide_eq_true ⟨h0, h1⟩]
      go_enter Tryz.func133, Tryz.ntmps133
      go_wp2
      go_ret
      exact ⟨ret_bool (by simp), rfl⟩
    · rw [decide_eq_false (by omega)]
      go_enter Tryz.func133, Tryz.ntmps133
      go_wp2
      go_ret
      exact ⟨ret_bool (by simp), rfl⟩
  · rw [decide_eq_false (by omega)]
    go_enter Tryz.func133, Tryz.ntmps133
    go_wp2
    go_ret
    exact ⟨ret_bool (by simp), rfl⟩

theorem okC_of {key : List Int} {s t : Int} {l : List Bool} (h1 : key.length = 32) (h2 : 0 ≤ s ∧ s ≤ 1073741824) (h3 : 0 ≤ t ∧ t ≤ 1073741824) (h4 : mayB t l = true) : OkC key s t l :=
  ⟨h1, h2.1, h2.2, h3.1, h3.2, ((mayB_iff t l).1 h4).1, ((mayB_iff t l).1 h4).2⟩
theorem checkE_ok {key : List Int} {s t : Int} {l : List Bool} (h : OkC key s t l) : checkE key s t l = 0 := if_pos h
theorem checkE_no {key : List Int} {s t : Int} {l : List Bool} (h : ¬ OkC key s t l) : checkE key s t l = 5 := if_neg h

set_option maxHeartbeats 1000000 in
set_option maxRecDepth 100000 in
theorem check_any (vk : Value) (key : List Int) (s t : Int) (l : List Bool) (w : World) (hk : Sl w vk key) (hl : l.length = 8) :
    Calls Tryz.prog 87 #[.agg (chA vk s t l)] w fun e w' => e = .returned (.int .i64 (checkE key s t l)) ∧ Below w.heap.size w w' := by
  obtain ⟨ak, ck, rfl⟩ := hk.shape
  have hkl := hk.len
  have bb : Below w.heap.size w (w.alloc (.cells (chA (.slice ak key.length ck) s t l) 55)) := (Below.refl _ _).alloc (Nat.le_refl _) _
  obtain ⟨b0, b1, b2, b3, b4, b5, b6, b7, rfl⟩ := eight l hl
  by_cases h1 : key.length = 32
  · have HK : Hid (key.length = 32) := h1
    obtain ⟨E, hE⟩ : ∃ E, checkE key s t [b0, b1, b2, b3, b4, b5, b6, b7] = E := ⟨_, rfl⟩
    have HE : Hid (checkE key s t [b0, b1, b2, b3, b4, b5, b6, b7] = E) := hE
    rw [hE]
    clear hE
    have bb0 := bb
    simp only [chA, List.map] at bb ⊢
    rw [h1] at bb bb0 hk ⊢
    have rr := heap_alloc_new w (.cells (chA (.slice ak 32 ck) s t [b0, b1, b2, b3, b4, b5, b6, b7]) 55)
    clear h1
    go_enter Tryz.func87, Tryz.ntmps87
    go_wp2_with fail
    refine (counted_any s _).mono ?_
    rintro e w1 ⟨rfl, rfl⟩
    by_cases h2 : 0 ≤ s ∧ s ≤ 1073741824
    · rw [decide_eq_true h2]
      go_wp2_with fail
      refine (counted_any t _).mono ?_
      rintro e w1 ⟨rfl, rfl⟩
      by_cases h3 : 0 ≤ t ∧ t ≤ 1073741824
      · rw [decide_eq_true h3]
        go_wp2_with fail
        refine (windowOf_any (.slice ak 32 ck) s t [b0, b1, b2, b3, b4, b5, b6, b7] _ rfl).mono ?_
        rintro e w2 ⟨rfl, c2⟩
        have d2 : Below w.heap.size w w2 := bb0.trans (c2.mono (by simp))
        go_wp2_with fail
        refine (mayBe_any t [b0, b1, b2, b3, b4, b5, b6, b7] w2 rfl h3.1 h3.2).mono ?_
        rintro e w3 ⟨rfl, c3⟩
        have d3 : Below w.heap.size w w3 := d2.trans (c3.mono d2.size)
        cases h4 : mayB t [b0, b1, b2, b3, b4, b5, b6, b7] with
        | true =>
          have H5 : Hid (0 = E) := HE.out ▸ (checkE_ok (okC_of HK.out h2 h3 h4)).symm
          go_wp2
          go_ret
          exact ⟨ret_num H5.out, d3⟩
        | false =>
          have H5 : Hid (5 = E) := HE.out ▸ (checkE_no (fun h => by
            have := (mayB_iff t [b0, b1, b2, b3, b4, b5, b6, b7]).2 ⟨h.low, h.top⟩
            rw [h4] at this
            cases this)).symm
          go_wp2
          go_ret
          exact ⟨ret_num H5.out, d3⟩
      · rw [decide_eq_false h3]
        have H5 : Hid (5 = E) := HE.out ▸ (checkE_no (fun h => h3 ⟨h.t0, h.t1⟩)).symm
        go_wp2
        go_ret
        exact ⟨ret_num H5.out, bb⟩
    · rw [decide_eq_false h2]
      have H5 : Hid (5 = E) := HE.out ▸ (checkE_no (fun h => h2 ⟨h.s0, h.s1⟩)).symm
      go_wp2
      go_ret
      exact ⟨ret_num H5.out, bb⟩
  · have HE : Hid (checkE key s t [b0, b1, b2, b3, b4, b5, b6, b7] = 5) := checkE_no fun h => h1 h.key
    have h1' : ¬ (key.length : Int) = 32 := by omega
    simp only [chA, List.map] at bb ⊢
    go_enter Tryz.func87, Tryz.ntmps87
    go_wp2
    go_ret
    exact ⟨ret_num HE.out.symm, bb⟩

theorem chInfo {k : Value} {s t : Int} {l : List Bool} (hl : l.length = 8) : (Tryz.prog.info? 55).map (·.size) = some (chA k s t l).size := by rw [chA_size, hl]; kernel_rfl
theorem chA_one {w : World} {k : Value} {key : List Int} (hk : Sl w k key) (s t : Int) (l : List Bool) : (chA k s t l).all (·.oneCell') = true := by
  obtain ⟨a, c, rfl⟩ := hk.shape
  simp [chA, Value.oneCell']

set_option maxHeartbeats 1000000 in
set_option maxRecDepth 100000 in
theorem new_any (vk : Value) (key : List Int) (w : World) (hk : Sl w vk key) :
    Calls Tryz.prog 95 #[vk] w fun e w' => ∃ v', e = .returned (.tuple #[.agg (chA v' 0 0 noB), .int .i64 (if key.length = 32 then 0 else 1)]) ∧ w'.ownsRow 0 5 1 v' (if key.length = 32 then key else []).length ((if key.length = 32 then key else []).map (Value.int .u8)) ∧ Below w.heap.size w w' := by
  obtain ⟨ak, ck, rfl⟩ := hk.shape
  have hkl := hk.len
  by_cases h1 : key.length = 32
  · rw [if_pos h1, if_pos h1]
    rw [h1] at hk ⊢
    have bb : Below w.heap.size w (w.alloc (.cells (chA (.slice none 0 0) 0 0 noB) 55)) := (Below.refl _ _).alloc (Nat.le_refl _) _
    have rr := heap_alloc_new w (.cells (chA (.slice none 0 0) 0 0 noB) 55)
    have hz : (w.alloc (.cells (chA (.slice none 0 0) 0 0 noB) 55)).heap.size = w.heap.size + 1 := by simp
    go_enter Tryz.func95, Tryz.ntmps95
    go_wp2_with fail
    refine (clone_any _ key _ (hk.below bb)).mono ?_
    rintro e w1 ⟨v1, rfl, o1, c1⟩
    rw [hz] at o1
    have s1 := Sl.ofOwns o1 hk.len hk.byte
    have r1 := (c1.block w.heap.size (by rw [hz]; omega)).trans rr
    have d1 : Below w.heap.size w w1 := bb.trans (c1.mono (by rw [hz]; omega))
    have hi := chInfo (k := v1) (s := 0) (t := 0) noB_length
    have ho := chA_one s1 0 0 noB
    clear c1 rr bb hz
    have hold : (chA (.slice none 0 0) 0 0 noB).size = (chA v1 0 0 noB).size := by rw [chA_size, chA_size]
    obtain ⟨a1, c1, hv1⟩ := s1.shape
    rw [h1] at hv1
    subst hv1
    go_wp2_with (refine wpList_store_row rfl 55 (.tmp 2) (.tmp 10) rfl w.heap.size (chA (.slice a1 32 c1) 0 0 noB) rfl rfl 55 _ r1 hi hold ho ?_)
    have r2 := setRow_heap w1 w.heap.size _ (chA (.slice a1 32 c1) 0 0 noB) 55 _ r1
    have d3 : Below w.heap.size w (w1.setRow w.heap.size (chA (.slice a1 32 c1) 0 0 noB)) := below_setRow d1 (Nat.le_refl _) _
    have s2 : (w1.setRow w.heap.size (chA (.slice a1 32 c1) 0 0 noB)).ownsRow 0 5 1 (.slice a1 32 c1) key.length (key.map (Value.int .u8)) :=
      owns_lower (owns_keepH o1 fun k hk' => setRow_other _ _ _ _ (by have := (o1.lt k hk').1; omega)) (Nat.zero_le _)
    exact bodyPost_ret (results_row2 rfl _ _ w.heap.size 55 _ (0, 0) _ rfl r2 Tryz.underlying55 rfl hi) rfl ⟨.slice a1 32 c1, rfl, h1 ▸ s2, d3⟩
  · rw [if_neg h1, if_neg h1]
    have h1' : ¬ (key.length : Int) = 32 := by omega
    go_enter Tryz.func95, Tryz.ntmps95
    go_wp2
    exact bodyPost_ret (results_row2 rfl _ _ w.heap.size 55 (chA (.slice none 0 0) 0 0 noB) (0, 0) _ rfl (heap_alloc_new _ _) Tryz.underlying55 rfl (chInfo noB_length)) rfl ⟨.slice none 0 0, rfl, World.ownsRow_nil _ _ _ _, (Below.refl _ _).alloc (Nat.le_refl _) _⟩
end Go.Proofs.YtakgfdbjgeopdaaGreatDoor
/-
  The walks of Send's and Take's records.
-/
namespace Go.Proofs.YtakgfdbjgeopdaaGreatDoor
open Go.RowKit
set_option linter.unusedVariables false

/-- what the walks know of a channel's box behind a call -/
structure Bx (w W : World) (k : Value) (s t : Int) (l : List Bool) : Prop where
  row : W.heap[w.heap.size]? = some (.cells (chA k s t l) 55 (0, 0))
  bel : Below w.heap.size w W
theorem Bx.new (w : World) (k : Value) (s t : Int) (l : List Bool) : Bx w (w.alloc (.cells (chA k s t l) 55)) k s t l := ⟨heap_alloc_new _ _, (Below.refl _ _).alloc (Nat.le_refl _) _⟩
theorem Bx.lt {w W : World} {k : Value} {s t : Int} {l : List Bool} (h : Bx w W k s t l) : w.heap.size < W.heap.size := (Array.getElem?_eq_some_iff.1 h.row).1
theorem Bx.step {w W W' : World} {k : Value} {s t : Int} {l : List Bool} (h : Bx w W k s t l) (hb : Below W.heap.size W W') : Bx w W' k s t l :=
  ⟨(hb.block _ h.lt).trans h.row, h.bel.trans (hb.mono h.bel.size)⟩
theorem Bx.c0 {w W : World} {k : Value} {s t : Int} {l : List Bool} (h : Bx w W k s t l) : W.cell? ⟨w.heap.size, 0, none⟩ = some k := (cell_of_row _ _ 0 _ _ _ h.row).trans (chA_key k s t l)
theorem Bx.c1 {w W : World} {k : Value} {s t : Int} {l : List Bool} (h : Bx w W k s t l) : W.cell? ⟨w.heap.size, 1, none⟩ = some (.int .i64 s) := (cell_of_row _ _ 1 _ _ _ h.row).trans (chA_sent k s t l)
theorem Bx.c2 {w W : World} {k : Value} {s t : Int} {l : List Bool} (h : Bx w W k s t l) : W.cell? ⟨w.heap.size, 2, none⟩ = some (.int .i64 t) := (cell_of_row _ _ 2 _ _ _ h.row).trans (chA_top k s t l)

def sendR (key : List Int) (s t : Int) (l : List Bool) (p : List Int) : List Int := if sendE key s t l p = 0 then recL key s p else []

set_option maxHeartbeats 2000000 in
set_option maxRecDepth 100000 in
theorem sent_any (vk : Value) (key : List Int) (s t : Int) (l : List Bool) (vp : Value) (p : List Int) (w : World) (hk : Sl w vk key) (hl : l.length = 8) (hp : Sl w vp p) (ht : QTab w) :
    Calls Tryz.prog 47 #[.agg (chA vk s t l), vp] w fun e w' => ∃ v', e = .returned (.tuple #[v', .int .i64 (sendE key s t l p)]) ∧ w'.ownsRow 0 5 1 v' (sendR key s t l p).length ((sendR key s t l p).map (Value.int .u8)) ∧ Below w.heap.size w w' := by
  have hpos := ht.pos
  have bx := Bx.new w vk s t l
  obtain ⟨ap, cp, rfl⟩ := hp.shape
  have hpl := hp.len
  have hi := chInfo (k := vk) (s := s) (t := t) hl
  by_cases hok : OkC key s t l
  · have HC : Hid (checkE key s t l = 0) := checkE_ok hok
    go_enter Tryz.func47, Tryz.ntmps47
    go_wp2_with (refine wpList_load_row rfl 55 _ rfl w.heap.size rfl 55 _ (0, 0) _ bx.row Tryz.underlying55 rfl hi ?_)
    refine (check_any vk key s t l _ (hk.below bx.bel) hl).mono ?_
    rintro e w1 ⟨rfl, b1⟩
    replace bx := bx.step b1
    rw [HC.out]
    clear b1
    by_cases h2 : 2000 < p.length
    · have HE : Hid (sendE key s t l p = 1) := by unfold Hid sendE; rw [if_neg (fun h => h hok), if_pos h2]
      have HR : Hid (sendR key s t l p = []) := by unfold Hid sendR; rw [HE.out]; rfl
      have h2' : (2000 : Int) < (p.length : Int) := by omega
      go_wp2
      go_ret2
      exact ⟨.slice none 0 0, by rw [HE.out]; rfl, by rw [HR.out]; exact World.ownsRow_nil _ _ _ _, bx.bel⟩
    · have h2' : ¬ (2000 : Int) < (p.length : Int) := by omega
      have c1 := bx.c1
      by_cases h3 : s = 1073741824
      · have HE : Hid (sendE key s t l p = 8) := by unfold Hid sendE; rw [if_neg (fun h => h hok), if_neg h2, if_pos h3]
        have HR : Hid (sendR key s t l p = []) := by unfold Hid sendR; rw [HE.out]; rfl
        go_wp2
        go_ret2
        exact ⟨.slice none 0 0, by rw [HE.out]; rfl, by rw [HR.out]; exact World.ownsRow_nil _ _ _ _, bx.bel⟩
      · have HE : Hid (sendE key s t l p = 0) := by unfold Hid sendE; rw [if_neg (fun h => h hok), if_neg h2, if_neg h3]
        have HR : Hid (sendR key s t l p = recL key s p) := by unfold Hid sendR; rw [HE.out]; rfl
        have s0 := hok.s0
        have s1 : s < 1073741824 := by have := hok.s1; omega
        have HKL : Hid (key.length = 32) := hok.key
        go_wp2_with fail
        have bel1 := bx.bel
        refine (headOf_any s w1 s0 s1).mono ?_
        rintro e w2 ⟨vh, rfl, oh, b2⟩
        replace bx := bx.step b2
        clear c1
        have c0 := bx.c0
        have sh : Sl w2 vh (headL s) := Sl.ofOwns oh (by rw [headL_length]; omega) (headL_byte s)
        have hk2 := hk.below bx.bel
        have hp2 := hp.below bx.bel
        have ht2 := ht.below hpos bx.bel
        have hpos2 : 4 < w2.heap.size := by have := bx.lt; omega
        have HX : Hid (recL key s p = headL s ++ sealL key (nonceL (headL s)) (headL s) p) := rfl
        have hhl := headL_length s
        have HF : Hid (fits key (nonceL (headL s)) (headL s) = true) := fits_of hok.key (nonceL_length rfl) (by rw [headL_length]; omega)
        have h2n : p.length ≤ 2000 := by omega
        have bel2 := bx.bel
        generalize headL s = H at HX hhl HF sh oh
        have hd : Below w2.heap.size w2 w2.drew := (Below.refl _ _).drew
        have hlt := oh.lt
        have hzz : w.heap.size < w2.drew.heap.size := bx.lt
        clear hk hp ht hok
        go_wp2_with fail
        go_region_with (first
          | (go_at_call 90; refine (nonceOf_any _ H _ (sh.below hd) hhl).mono ?_; rintro e w3 ⟨vn, rfl, sn, b3⟩; have c3 := (b3.cell (p := ⟨w.heap.size, 0, none⟩) hzz).trans c0)
          | (go_at_call 89; refine (seal_ok vk vn _ _ key (nonceL H) H p _ ((hk2.below hd).below b3) sn ((sh.below hd).below b3) ((hp2.below hd).below b3) HF.out h2n ((ht2.below hpos2 hd).below hpos2 b3)).mono ?_; rintro e w4 ⟨vx, rfl, sx, b4⟩))
        all_goals
          have o4 := owns_below (owns_below oh.drew b3) b4
          have hl4 := o4.lt
          have d3 : Below w.heap.size w w3 := bel2.trans ((hd.trans b3).mono bel2.size)
          have d4 : Below w.heap.size w w4 := d3.trans (b4.mono d3.size)
          have hz4 : w1.heap.size ≤ w4.heap.size := Nat.le_trans b2.size (Nat.le_trans hd.size (Nat.le_trans b3.size b4.size))
          have hz1 : w.heap.size ≤ w1.heap.size := bel1.size
          have hxl := sealL_length key (nonceL H) H p
          clear bx oh sh hk2 hp2 ht2 hd c0 c3 sn b3 b4 hzz b2 bel2
          generalize sealL key (nonceL H) H p = X at HX hxl sx
          go_wp2_with (at_builtin; refine wpList_append_sl _ rfl _ _ 26 rfl w1.heap.size 5 Tryz.underlying26 info5 _ _ rfl rfl H X o4 sx (by omega) hz4 ?_)
          intro v5 w5 ho5 hg5
          have b5 : Below w.heap.size w w5 := d4.grown hg5 (by omega) (fun k hk => Nat.le_trans hz1 (hl4 k hk).1)
          have HO5 : Hid (w5.ownsRow w1.heap.size 5 1 v5 (H ++ X).length ((H ++ X).map (Value.int .u8))) := by
            unfold Hid
            simpa [hhl, hxl] using ho5
          clear ho5 hg5 o4
          go_wp2
          go_ret2
          refine ⟨v5, by rw [HE.out]; rfl, ?_, b5⟩
          rw [HR.out, HX.out]
          exact owns_lower HO5.out (Nat.zero_le _)
  · have HC : Hid (checkE key s t l = 5) := checkE_no hok
    have HE : Hid (sendE key s t l p = 5) := if_pos hok
    have HR : Hid (sendR key s t l p = []) := by unfold Hid sendR; rw [HE.out]; rfl
    go_enter Tryz.func47, Tryz.ntmps47
    go_wp2_with (refine wpList_load_row rfl 55 _ rfl w.heap.size rfl 55 _ (0, 0) _ bx.row Tryz.underlying55 rfl hi ?_)
    refine (check_any vk key s t l _ (hk.below bx.bel) hl).mono ?_
    rintro e w1 ⟨rfl, b1⟩
    replace bx := bx.step b1
    rw [HC.out]
    go_wp2
    go_ret2
    exact ⟨.slice none 0 0, by rw [HE.out]; rfl, by rw [HR.out]; exact World.ownsRow_nil _ _ _ _, bx.bel⟩
end Go.Proofs.YtakgfdbjgeopdaaGreatDoor
