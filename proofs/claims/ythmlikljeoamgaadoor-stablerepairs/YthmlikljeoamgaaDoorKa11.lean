/-
  The walk of the number at a place of bytes.
-/
import Derived.Test.YthmlikljeoamgaaDoorKa10
import Derived.Test.YthmlikljeoamgaaDoorKa8
namespace Go.Proofs.YthmlikljeoamgaaDoor
open Go.RowKit
set_option linter.unusedVariables false

set_option maxRecDepth 100000 in
theorem Sl.fourAt {w : World} {a : Option Addr} {n cap : Nat} {l : List Int} (h : Sl w (.slice a n cap) l) (lo : Nat) (hhi : lo + 4 ≤ l.length) (li hj : Int) (hli : li = (lo : Int)) (hhj : hj = (lo : Int) + 4) :
    ∃ a' c', (∀ W, (Instr.slice 22 (.slice a n cap) (some (.int .i64 li)) (some (.int .i64 hj)) none).run Tryd.prog W = .ok (.slice a' 4 c') W) ∧ Sl w (.slice a' 4 c') ((l.take (lo + 4)).drop lo) := by
  subst hli
  subst hhj
  have hw := h.window lo (lo + 4) (by omega) hhi
  obtain ⟨⟨a', cap', e, hc, hn, h1⟩, hla, hba⟩ := h
  simp only [Value.slice.injEq] at e
  obtain ⟨rfl, rfl, rfl⟩ := e
  have e4 : lo + 4 - lo = 4 := by omega
  unfold sliced at hw
  rw [e4] at hw
  refine ⟨_, _, fun W => ?_, hw⟩
  rw [run_slice_lh (P := Tryd.prog) W 22 a _ cap Tryd.underlying22 .i64 .i64 _ _ (by omega) (by omega) (by omega)]
  have e : Tryd.prog.elem 22 = 5 := by kernel_rfl
  rw [e, size5w, show ((lo : Int) + 4).toNat = lo + 4 by omega, Int.toNat_natCast]
  simp [Result.andThen, sliced]

theorem or_byteO (x b : Int) (hx : 0 ≤ x ∧ x < 36028797018963968) (hb : 0 ≤ b ∧ b < 256) : bits .or .i64 (x * 256) b = x * 256 + b := by
  obtain ⟨x, rfl⟩ := Int.eq_ofNat_of_zero_le hx.1
  obtain ⟨y, rfl⟩ := Int.eq_ofNat_of_zero_le hb.1
  have e : (x : Int) * 256 = ((x * 256 : Nat) : Int) := by omega
  have key : (BitVec.ofInt 64 ((x * 256 : Nat) : Int) ||| BitVec.ofInt 64 (y : Int)).toNat = x * 256 + y := by
    rw [BitVec.toNat_or, BitVec.toNat_ofInt, BitVec.toNat_ofInt]
    have h1 : ((y : Int) % ((2 ^ 64 : Nat) : Int)).toNat = y := by omega
    have h2 : (((x * 256 : Nat) : Int) % ((2 ^ 64 : Nat) : Int)).toNat = 2 ^ 8 * x := by omega
    rw [h1, h2, ← Nat.two_pow_add_eq_or_of_lt (by omega : y < 2 ^ 8)]
    omega
  rw [e]
  show IntKind.i64.wrap ((BitVec.ofInt 64 ((x * 256 : Nat) : Int) ||| BitVec.ofInt 64 (y : Int)).toNat : Nat) = _
  rw [key, IntKind.wrap_i64]
  omega
/-- the number of the first k bytes -/
def numKO (h : List Int) : Nat → Int
  | 0 => 0
  | k + 1 => numKO h k * 256 + h.getD k 0
theorem numKO_range {h : List Int} (hb : ∀ x ∈ h, 0 ≤ x ∧ x < 256) (k : Nat) : 0 ≤ numKO h k ∧ numKO h k < 256 ^ k := by
  induction k with
  | zero => simp [numKO]
  | succ k ih =>
    have := getD_byte hb k
    rw [numKO, Int.pow_succ]
    omega
theorem numKO_four (l : List Int) (lo : Nat) (h : lo + 4 ≤ l.length) : numKO ((l.take (lo + 4)).drop lo) 4 = numA l lo := by
  show (((0 * 256 + ((l.take (lo + 4)).drop lo).getD 0 0) * 256 + ((l.take (lo + 4)).drop lo).getD 1 0) * 256 + ((l.take (lo + 4)).drop lo).getD 2 0) * 256 + ((l.take (lo + 4)).drop lo).getD 3 0 = _
  rw [getD_dropped, getD_dropped, getD_dropped, getD_dropped, getD_taken _ _ _ (by omega), getD_taken _ _ _ (by omega), getD_taken _ _ _ (by omega), getD_taken _ _ _ (by omega)]
  unfold numA
  rw [Nat.add_zero]
  omega
set_option maxHeartbeats 1000000 in
set_option maxRecDepth 100000 in
theorem numberAt_any (v : Value) (l : List Int) (lo : Nat) (w : World) (h : Sl w v l) (hl : lo + 4 ≤ l.length) (li : Int) (hli : li = (lo : Int)) :
    Calls Tryd.prog 87 #[v, .int .i64 li] w fun e w' => e = .returned (.int .i64 (numA l lo)) ∧ w' = w := by
  have HN : Hid (numKO ((l.take (lo + 4)).drop lo) 4 = numA l lo) := numKO_four l lo hl
  have hlen := h.len
  have i0 : 0 ≤ li := by omega
  have i1 : li ≤ 140737488351232 := by omega
  obtain ⟨a, c, rfl⟩ := h.shape
  obtain ⟨a2, c2, hr, hs⟩ := h.fourAt lo hl li (li + 4) hli (by omega)
  have HB : Hid (∀ x ∈ (l.take (lo + 4)).drop lo, 0 ≤ x ∧ x < 256) := hs.byte
  have HS : Hid (((l.take (lo + 4)).drop lo).length = 4) := by unfold Hid; rw [List.length_drop, List.length_take]; omega
  generalize (l.take (lo + 4)).drop lo = L at HN hs HB HS
  generalize l.length = N at hr hlen ⊢
  clear h hl hli hlen
  go_enter Tryd.func87, Tryd.ntmps87
  go_wp2_with fail
  go_loopw [5, 14] (fun v iv wr => ∃ j : Nat, j ≤ 4 ∧ iv = .int .i64 (j : Int) ∧ v = .int .i64 (numKO L j) ∧ wr = w) (fun _ iv _ => (4 - intOf iv).toNat)
  case atStart => exact ⟨0, by omega, rfl, rfl, rfl⟩
  case round =>
    obtain ⟨j, hj, rfl, rfl, rfl⟩ := hrel
    by_cases hj4 : j < 4
    · have hii : (j : Int) < 4 := by omega
      have hx := numKO_range HB.out j
      have hx2 : numKO L j < 16777216 := by
        have : (256 : Int) ^ j ≤ 256 ^ 3 := by
          rcases (by omega : j = 0 ∨ j = 1 ∨ j = 2 ∨ j = 3) with rfl | rfl | rfl | rfl <;> decide
        omega
      have hb := getD_byte HB.out j
      obtain ⟨bd, od, rfl, hbd, hc⟩ := hs.spotO j (by have := HS.out; omega)
      have hor := or_byteO (numKO L j) (L.getD j 0) ⟨hx.1, by omega⟩ hb
      have HK : Hid (numKO L j * 256 + L.getD j 0 = numKO L (j + 1)) := rfl
      have hx1 := hx.1
      clear hx hs hr
      generalize numKO L j = X at hx1 hx2 hor HK
      generalize L.getD j 0 = B at hb hc hor HK
      go_wp2
      go_roundw
      case rel => exact ⟨j + 1, by omega, by go_num, by rw [← HK.out], trivial⟩
      case measure => simp [intOf]; omega
    · obtain rfl : j = 4 := by omega
      rw [show ((4 : Nat) : Int) = 4 from rfl, HN.out]
      go_wp2
      go_ret
      exact ⟨rfl, rfl⟩
end Go.Proofs.YthmlikljeoamgaaDoor
/-
  The walks of the program's own numbers and ballots, out of bytes.
-/
namespace Go.Proofs.YthmlikljeoamgaaDoor
open Go.RowKit
set_option linter.unusedVariables false

set_option maxHeartbeats 1000000 in
set_option maxRecDepth 100000 in
theorem snumberAt_any (v : Value) (l : List Int) (lo : Nat) (w : World) (h : Sl w v l) (hl : lo + 4 ≤ l.length) (li : Int) (hli : li = (lo : Int)) :
    Calls Tryd.prog 83 #[v, .int .i64 li] w fun e w' => e = .returned (.int .i64 (numA l lo)) ∧ w' = w := by
  have HN : Hid (numKO ((l.take (lo + 4)).drop lo) 4 = numA l lo) := numKO_four l lo hl
  have hlen := h.len
  have i0 : 0 ≤ li := by omega
  have i1 : li ≤ 140737488351232 := by omega
  obtain ⟨a, c, rfl⟩ := h.shape
  obtain ⟨a2, c2, hr, hs⟩ := h.fourAt lo hl li (li + 4) hli (by omega)
  have HB : Hid (∀ x ∈ (l.take (lo + 4)).drop lo, 0 ≤ x ∧ x < 256) := hs.byte
  have HS : Hid (((l.take (lo + 4)).drop lo).length = 4) := by unfold Hid; rw [List.length_drop, List.length_take]; omega
  generalize (l.take (lo + 4)).drop lo = L at HN hs HB HS
  generalize l.length = N at hr hlen ⊢
  clear h hl hli hlen
  go_enter Tryd.func83, Tryd.ntmps83
  go_wp2_with fail
  go_loopw [5, 14] (fun v iv wr => ∃ j : Nat, j ≤ 4 ∧ iv = .int .i64 (j : Int) ∧ v = .int .i64 (numKO L j) ∧ wr = w) (fun _ iv _ => (4 - intOf iv).toNat)
  case atStart => exact ⟨0, by omega, rfl, rfl, rfl⟩
  case round =>
    obtain ⟨j, hj, rfl, rfl, rfl⟩ := hrel
    by_cases hj4 : j < 4
    · have hii : (j : Int) < 4 := by omega
      have hx := numKO_range HB.out j
      have hx2 : numKO L j < 16777216 := by
        have : (256 : Int) ^ j ≤ 256 ^ 3 := by
          rcases (by omega : j = 0 ∨ j = 1 ∨ j = 2 ∨ j = 3) with rfl | rfl | rfl | rfl <;> decide
        omega
      have hb := getD_byte HB.out j
      obtain ⟨bd, od, rfl, hbd, hc⟩ := hs.spotO j (by have := HS.out; omega)
      have hor := or_byteO (numKO L j) (L.getD j 0) ⟨hx.1, by omega⟩ hb
      have HK : Hid (numKO L j * 256 + L.getD j 0 = numKO L (j + 1)) := rfl
      have hx1 := hx.1
      clear hx hs hr
      generalize numKO L j = X at hx1 hx2 hor HK
      generalize L.getD j 0 = B at hb hc hor HK
      go_wp2
      go_roundw
      case rel => exact ⟨j + 1, by omega, by go_num, by rw [← HK.out], trivial⟩
      case measure => simp [intOf]; omega
    · obtain rfl : j = 4 := by omega
      rw [show ((4 : Nat) : Int) = 4 from rfl, HN.out]
      go_wp2
      go_ret
      exact ⟨rfl, rfl⟩
set_option maxHeartbeats 2000000 in
set_option maxRecDepth 100000 in
theorem ballotOf_any (v : Value) (l : List Int) (w : World) (h : Sl w v l) (hl : 8 ≤ l.length) :
    Calls Tryd.prog 70 #[v] w fun e w' => e = .returned (.agg (baA ⟨numA l 0, numA l 4⟩)) ∧ Below w.heap.size w w' := by
  simp only [baA]
  obtain ⟨W0, hW0⟩ : ∃ W0, w.alloc (.cells #[.int .i64 0, .int .i64 0] 26) = W0 := ⟨_, rfl⟩
  have r0_r : W0.heap[w.heap.size]? = some (.cells #[.int .i64 0, .int .i64 0] 26) := by rw [← hW0]; exact t_alloc1_0 _ _
  have bb : Below w.heap.size w W0 := by rw [← hW0]; exact t_allocB1 _ _
  have l0_r : w.heap.size < W0.heap.size := (Array.getElem?_eq_some_iff.1 r0_r).1
  have sl0_x := h.below bb
  go_enter Tryd.func70, Tryd.ntmps70
  go_wp2_with fail
  clear hW0
  refine (snumberAt_any v l 0 W0 sl0_x (by omega) 0 rfl).mono ?_
  rintro e wq ⟨rfl, hwq⟩
  replace hwq := hwq.symm
  subst hwq
  go_wp2_with fail
  refine (snumberAt_any v l 4 W0 sl0_x (by omega) 4 rfl).mono ?_
  rintro e wq ⟨rfl, hwq⟩
  replace hwq := hwq.symm
  subst hwq
  have onR : (#[.int .i64 (numA l 0), .int .i64 (numA l 4)] : Array Value).all (·.oneCell') = true := by simp [Value.oneCell']
  go_wp2_with ((with_reducible (refine tpLook ?_)); (refine wpList_store_row rfl 26 (.tmp 2) (.tmp 7) rfl w.heap.size #[.int .i64 (numA l 0), .int .i64 (numA l 4)] rfl rfl 26 _ r0_r baSize rfl onR ?_))
  have qR := setRow_heap W0 w.heap.size _ (#[.int .i64 (numA l 0), .int .i64 (numA l 4)]) 26 _ r0_r
  have dR := tBelow_row bb (show w.heap.size ≤ w.heap.size by omega) (#[.int .i64 (numA l 0), .int .i64 (numA l 4)])
  refine bodyPost_ret (tRow1 rfl _ _ w.heap.size 26 _ (0, 0) _ rfl qR Tryd.underlying26 rfl baSize) rfl ?_
  exact ⟨rfl, dR⟩
end Go.Proofs.YthmlikljeoamgaaDoor
/-
  The walk of Encode.
-/
namespace Go.Proofs.YthmlikljeoamgaaDoor
open Go.RowKit
set_option linter.unusedVariables false

/-- the bytes of the first numbers -/
def encK (l : List Int) (j : Nat) : List Int := (l.take j).flatMap headL
theorem encK_succ (l : List Int) (j : Nat) (h : j < l.length) : encK l (j + 1) = encK l j ++ headL (l.getD j 0) := by
  unfold encK
  rw [List.take_succ_eq_append_getElem h, List.flatMap_append, getD_at h]
  simp
theorem encK_length (l : List Int) (j : Nat) : (encK l j).length ≤ 4 * j := by
  unfold encK
  induction l generalizing j with
  | nil => simp
  | cons x l ih =>
    cases j with
    | zero => simp
    | succ j =>
      have := ih j
      rw [List.take_succ_cons, List.flatMap_cons, List.length_append, headL_length]
      omega
theorem encK_five (k c s n v : Int) : encK [k, c, s, n, v] 5 = comL k c s n v := rfl
/-- what Encode answers -/
def encL (k c s n v : Int) : List Int := if comE k c s n v = 0 then comL k c s n v else []
theorem encL_ok {k c s n v : Int} (h : comE k c s n v = 0) : encL k c s n v = comL k c s n v := if_pos h
theorem encL_no {k c s n v : Int} (h : ¬ comE k c s n v = 0) : encL k c s n v = [] := if_neg h
def zer20 : Array Value := (List.replicate 20 (Value.int .u8 0)).toArray
theorem make20 (w : World) : (Instr.makeSlice 22 (.int .i64 0) (.int .i64 20)).run Tryd.prog w = .ok (.slice (some ⟨w.heap.size, 0, none⟩) 0 20) (w.alloc (.cells zer20 5)) := by
  obtain ⟨i, hi, hz, hsz, hby⟩ := info_parts info5
  rw [run_makeSlice (P := Tryd.prog) w 22 5 i (.int .u8 0) Tryd.underlying22 hi hz .i64 .i64 0 20 (by omega) (by omega) (by rw [hsz]; decide) (by rw [hby]; decide) (by omega), hsz]
  have e : madeCells (Value.int .u8 0).cells ((20 : Int).toNat * 1) = zer20 := by kernel_rfl
  rw [e]
  rfl
theorem Bc.num {w : World} {g : Nat} {k c s n v : Int} (h : Bc w g k c s n v) (j : Nat) (hj : j < 5) : w.cell? ⟨g, j, none⟩ = some (.int .i64 ([k, c, s, n, v].getD j 0)) := by
  obtain ⟨c0, c1, c2, c3, c4⟩ := cmA_cells h.row
  rcases (by omega : j = 0 ∨ j = 1 ∨ j = 2 ∨ j = 3 ∨ j = 4) with rfl | rfl | rfl | rfl | rfl
  · exact c0
  · exact c1
  · exact c2
  · exact c3
  · exact c4

theorem owns_keepO {w w' : World} {base e : Nat} {v : Value} {n : Nat} {xs : List Value} (h : w.ownsRow base e 1 v n xs) (hk : ∀ k, v.ownBlock = some k → w'.heap[k]? = w.heap[k]?) : w'.ownsRow base e 1 v n xs := by
  refine ⟨h.1, ?_⟩
  rcases h.2 with h2 | ⟨g, cap, cur, hv, hb, hg, hr⟩
  · exact .inl h2
  · exact .inr ⟨g, cap, cur, hv, hb, (hk g (by rw [hv]; rfl)).trans hg, hr⟩
theorem owns_belowO {w w' : World} {base e : Nat} {v : Value} {n : Nat} {xs : List Value} (h : w.ownsRow base e 1 v n xs) (hb : Below w.heap.size w w') : w'.ownsRow base e 1 v n xs :=
  owns_keepO h fun k hk => hb.block k (h.lt k hk).2

set_option maxHeartbeats 1000000 in
set_option maxRecDepth 100000 in
theorem encode_any (k c s n v : Int) (w : World) (ht : NTab w) :
    Calls Tryd.prog 29 #[.agg (cmA k c s n v)] w fun e w' => ∃ v', e = .returned (.tuple #[v', .int .i64 (comE k c s n v)]) ∧ w'.ownsRow w.heap.size 5 1 v' (encL k c s n v).length ((encL k c s n v).map (Value.int .u8)) ∧ Below w.heap.size w w' := by
  have bb : Below w.heap.size w (w.alloc (.cells (cmA k c s n v) 34)) := (Below.refl _ _).alloc (Nat.le_refl _) _
  have bc := Bc.made w k c s n v
  have hT := ht.below bb
  have hi := comInfo k c s n v
  generalize hW : w.alloc (.cells (cmA k c s n v) 34) = W at bb bc hT
  clear ht
  go_enter Tryd.func29, Tryd.ntmps29
  go_wp2_with (refine wpList_load_row rfl 34 _ rfl w.heap.size rfl 34 _ (0, 0) _ bc.row Tryd.underlying34 rfl hi ?_)
  clear hW
  refine (oCheck_any k c s n v W hT).mono ?_
  rintro e w1 ⟨rfl, b1⟩
  have d1 : Below w.heap.size w w1 := bb.trans (b1.mono bb.size)
  replace bc := bc.below b1
  clear b1 bb hT
  by_cases h1 : comE k c s n v = 0
  · have HE : Hid (encL k c s n v = encK [k, c, s, n, v] 5) := (encL_ok h1).trans (encK_five k c s n v).symm
    have hz := comE_zero h1
    have HS : Hid (∀ j, j < 5 → 0 ≤ [k, c, s, n, v].getD j 0 ∧ [k, c, s, n, v].getD j 0 < 2147483648) := by
      unfold Hid
      obtain ⟨hk, hc⟩ := hz
      unfold InC at hc
      intro j hj
      rcases (by omega : j = 0 ∨ j = 1 ∨ j = 2 ∨ j = 3 ∨ j = 4) with rfl | rfl | rfl | rfl | rfl
      · show 0 ≤ k ∧ k < 2147483648; omega
      · show 0 ≤ c ∧ c < 2147483648; omega
      · show 0 ≤ s ∧ s < 2147483648; omega
      · show 0 ≤ n ∧ n < 2147483648; omega
      · show 0 ≤ v ∧ v < 2147483648; omega
    have HL : Hid ([k, c, s, n, v].length = 5) := rfl
    have HZ : Hid (comE k c s n v = 0) := h1
    rw [h1]
    clear hz h1
    have hmk := make20 w1
    have b2 : Below w1.heap.size w1 (w1.alloc (.cells zer20 5)) := (Below.refl _ _).alloc (Nat.le_refl _) _
    have ho0 : (w1.alloc (.cells zer20 5)).ownsRow w1.heap.size 5 1 (.slice (some ⟨w1.heap.size, 0, none⟩) 0 20) ([] : List Int).length (([] : List Int).map (Value.int .u8)) :=
      ⟨rfl, .inr ⟨w1.heap.size, 20, zer20, rfl, Nat.le_refl _, heap_alloc_new _ _, by decide, by simp [maxLen], rfl, rfl⟩⟩
    have HO0 : Hid _ := ho0
    clear ho0
    generalize w1.alloc (.cells zer20 5) = W2 at hmk b2 HO0
    go_wp2_with fail
    refine (numbersOf_any w.heap.size W2).mono ?_
    rintro e w3 ⟨rfl, b3⟩
    have HO3 : Hid (w3.ownsRow w1.heap.size 5 1 (.slice (some ⟨w1.heap.size, 0, none⟩) 0 20) ([] : List Int).length (([] : List Int).map (Value.int .u8))) := owns_belowO HO0.out b3
    have d3 : Below w1.heap.size w1 w3 := b2.trans (b3.mono b2.size)
    have z3 := d3.size
    clear HO0 b2 b3 hmk
    have hlt := bc.lt
    have hN : ∀ wr, Below w1.heap.size w1 wr → ∀ j, j < 5 → wr.cell? ⟨w.heap.size, j, none⟩ = some (.int .i64 ([k, c, s, n, v].getD j 0)) := fun wr hb j hj => (bc.below hb).num j hj
    have HN : Hid _ := hN
    clear bc hN
    generalize [k, c, s, n, v] = L at HE HS HN HL
    have hBz : w1.heap.size ≤ w1.heap.size := Nat.le_refl _
    have hwB : w.heap.size ≤ w1.heap.size := d1.size
    generalize hB : w1.heap.size = B at d3 z3 HO3 HN hlt hwB
    replace hBz : B ≤ w1.heap.size := by omega
    clear hB
    have hix := pt_index w.heap.size
    go_wp2_with fail
    go_loopw [5, 15] (fun v iv wr => ∃ j : Nat, j ≤ 5 ∧ iv = .int .i64 (j : Int) ∧ wr.ownsRow B 5 1 v (encK L j).length ((encK L j).map (Value.int .u8)) ∧ Below B w1 wr) (fun _ iv _ => (5 - intOf iv).toNat)
    case atStart => exact ⟨0, by omega, rfl, HO3.out, d3⟩
    case round =>
      obtain ⟨j, hj, rfl, hown, hbel⟩ := hrel
      by_cases hj5 : j < 5
      · have hji : (j : Int) < 5 := by omega
        have hij := hix j hj5
        have hcj := HN.out _ hbel j hj5
        have hsj := HS.out j hj5
        have HK : Hid (encK L (j + 1) = encK L j ++ headL (L.getD j 0)) := encK_succ L j (by rw [HL.out]; omega)
        have HQ := encK_length L j
        have HO : Hid _ := hown
        have hz : B ≤ wr.heap.size := Nat.le_trans hBz hbel.size
        clear hown hix HO3
        generalize L.getD j 0 = X at hcj hsj HK
        go_wp2_with fail
        refine (putNumber_any _ _ X B wr HO.out hz (by omega) hsj.1 hsj.2).mono ?_
        rintro e w5 ⟨v5, rfl, o5, b5⟩
        have HO5 : Hid (w5.ownsRow B 5 1 v5 (encK L (j + 1)).length ((encK L (j + 1)).map (Value.int .u8))) := by unfold Hid; rw [HK.out]; exact o5
        have d5 := hbel.trans b5
        clear o5 b5 HO HK HQ hcj hij hsj
        go_wp2
        go_roundw
        case rel => exact ⟨j + 1, by omega, by go_num, HO5.out, d5⟩
        case measure => simp [intOf]; omega
      · obtain rfl : j = 5 := by omega
        rw [show ((5 : Nat) : Int) = 5 from rfl]
        have HO : Hid _ := hown
        clear hown hix HO3
        go_wp2
        go_ret2
        rw [HE.out, HZ.out]
        exact ⟨_, rfl, owns_lower HO.out hwB, d1.trans (hbel.mono hwB)⟩
  · have HE : Hid (encL k c s n v = []) := encL_no h1
    go_wp2
    go_ret2
    rw [HE.out]
    exact ⟨_, rfl, World.ownsRow_nil _ _ _ _, d1⟩
theorem oRow2 {P : Program} {fn : Func} {p u : Tmp} {ty : TypeId} (h : fn.results = #[.cell p ty, .tmp u]) (tmps : Array Value) (w : World) (g : Nat) (t : TypeId) (cs : Array Value) (fr : Nat × Nat) (d : TypeDesc)
    (hp : tmps.getD p undef = .pointer (some ⟨g, 0, none⟩)) (hg : w.heap[g]? = some (.cells cs t fr))
    (hu : P.underlying ty = some d) (hd : (match d with | .struct _ | .array _ _ => true | _ => false) = true) (hi : (P.info? ty).map (·.size) = some cs.size) :
    (results fn tmps).run P w = .ok (.tuple #[.agg cs, tmps.getD u undef]) w := by
  have hp' : tmps[p]?.getD undef = .pointer (some ⟨g, 0, none⟩) := by simpa using hp
  simp [results, h, hp', asAddr, run_loadVar_row w g t ty cs fr d hg hu hd hi]
theorem cmA_one (k c s n v : Int) : (cmA k c s n v).all (·.oneCell') = true := by simp [cmA, Value.oneCell']
end Go.Proofs.YthmlikljeoamgaaDoor
/-
  The walk of Decode.
-/
namespace Go.Proofs.YthmlikljeoamgaaDoor
open Go.RowKit
set_option linter.unusedVariables false

/-- the numbers of a command that is read, of which j stand -/
def decK (l : List Int) (j : Nat) : List Int := (List.range 5).map fun i => if i < j then numA l (4 * i) else 0
def rowOf (m : List Int) : Array Value := (m.map (Value.int .i64)).toArray
theorem decK_zero (l : List Int) : rowOf (decK l 0) = cmA 0 0 0 0 0 := rfl
theorem decK_five (l : List Int) : rowOf (decK l 5) = cmA (numA l 0) (numA l 4) (numA l 8) (numA l 12) (numA l 16) := rfl
theorem decK_set (l : List Int) (j : Nat) (hj : j < 5) : (rowOf (decK l j)).setIfInBounds j (.int .i64 (numA l (4 * j))) = rowOf (decK l (j + 1)) := by
  rcases (by omega : j = 0 ∨ j = 1 ∨ j = 2 ∨ j = 3 ∨ j = 4) with rfl | rfl | rfl | rfl | rfl
  all_goals rfl

set_option maxHeartbeats 1000000 in
set_option maxRecDepth 100000 in
theorem decode_any (v : Value) (l : List Int) (w : World) (h : Sl w v l) (ht : NTab w) :
    Calls Tryd.prog 84 #[v] w fun e w' => e = .returned (.tuple #[.agg (decV l), .int .i64 (decE l)]) ∧ Below w.heap.size w w' := by
  have hlen := h.len
  obtain ⟨a, cp, rfl⟩ := h.shape
  by_cases h1 : l.length = 20
  · have HE : Hid (decE l = comE (numA l 0) (numA l 4) (numA l 8) (numA l 12) (numA l 16)) := if_neg (fun g => g h1)
    have hs := h
    have HL : Hid (l.length = 20) := h1
    rw [h1] at hs ⊢
    clear h h1 hlen
    have b0 : Below w.heap.size w (w.alloc (.cells (cmA 0 0 0 0 0) 34)) := (Below.refl _ _).alloc (Nat.le_refl _) _
    have z0 : (w.alloc (.cells (cmA 0 0 0 0 0) 34)).heap.size = w.heap.size + 1 := by simp
    have r0 := heap_alloc_new w (.cells (cmA 0 0 0 0 0) 34)
    have b1 : Below (w.heap.size + 1) (w.alloc (.cells (cmA 0 0 0 0 0) 34)) ((w.alloc (.cells (cmA 0 0 0 0 0) 34)).alloc (.cells (cmA 0 0 0 0 0) 34)) := (Below.refl _ _).alloc (by omega) _
    have r1 := heap_alloc_new (w.alloc (.cells (cmA 0 0 0 0 0) 34)) (.cells (cmA 0 0 0 0 0) 34)
    rw [z0] at r1
    replace r0 := (b1.block w.heap.size (by omega)).trans r0
    have d1 := b0.trans (b1.mono (Nat.le_succ _))
    have z1 : ((w.alloc (.cells (cmA 0 0 0 0 0) 34)).alloc (.cells (cmA 0 0 0 0 0) 34)).heap.size = w.heap.size + 1 + 1 := by simp
    have hW : (w.alloc (.cells #[.int .i64 0, .int .i64 0, .int .i64 0, .int .i64 0, .int .i64 0] 34)).alloc (.cells #[.int .i64 0, .int .i64 0, .int .i64 0, .int .i64 0, .int .i64 0] 34) = (w.alloc (.cells (cmA 0 0 0 0 0) 34)).alloc (.cells (cmA 0 0 0 0 0) 34) := rfl
    clear b0 b1 z0
    generalize (w.alloc (.cells (cmA 0 0 0 0 0) 34)).alloc (.cells (cmA 0 0 0 0 0) 34) = W at r0 r1 d1 z1 hW
    go_enter Tryd.func84, Tryd.ntmps84
    go_wp2_with fail
    clear hW
    refine (numbersOf_any (w.heap.size + 1) W).mono ?_
    rintro e w2 ⟨rfl, b2⟩
    replace r0 := (b2.block w.heap.size (by omega)).trans r0
    replace r1 := (b2.block (w.heap.size + 1) (by omega)).trans r1
    have d2 := d1.trans (b2.mono d1.size)
    have HR0 : Hid _ := r0
    have HR1 : Hid (w2.heap[w.heap.size + 1]? = some (.cells (rowOf (decK l 0)) 34)) := r1
    clear r0 r1 b2 d1 z1
    have hix := pt_index (w.heap.size + 1)
    go_wp2_with fail
    go_loopw [13] (fun iv wr => ∃ j : Nat, j ≤ 5 ∧ iv = .int .i64 (j : Int) ∧ wr.heap[w.heap.size]? = some (.cells (cmA 0 0 0 0 0) 34) ∧ wr.heap[w.heap.size + 1]? = some (.cells (rowOf (decK l j)) 34) ∧ Below w.heap.size w wr) (fun iv _ => (5 - intOf iv).toNat)
    case atStart => exact ⟨0, by omega, rfl, HR0.out, HR1.out, d2⟩
    case round =>
      obtain ⟨j, hj, rfl, hr0, hr1, hbel⟩ := hrel
      clear HR0 HR1
      by_cases hj5 : j < 5
      · have hji : (j : Int) < 5 := by omega
        have hij := hix j hj5
        have hcell : ∃ x, wr.cell? ⟨w.heap.size + 1, j, none⟩ = some (.int .i64 x) := ⟨(decK l j).getD j 0, (cell_of_row _ _ j _ _ _ hr1).trans (by simp [rowOf, decK, hj5])⟩
        obtain ⟨x, hx⟩ := hcell
        have hfz := frozen_of_row wr _ j _ _ hr1
        have HR0 : Hid _ := hr0
        have HR1 : Hid _ := hr1
        have HS := decK_set l j hj5
        clear hix hr0 hr1
        go_wp2_with fail
        refine (numberAt_any (.slice a 20 cp) l (4 * j) wr (hs.below hbel) (by rw [HL.out]; omega) _ (by omega)).mono ?_
        rintro e w5 ⟨rfl, rfl⟩
        have q0 : (w5.setCell ⟨w.heap.size + 1, j, none⟩ (.int .i64 (numA l (4 * j)))).heap[w.heap.size]? = some (.cells (cmA 0 0 0 0 0) 34) := (heap_setCell_other _ _ _ _ (by simp)).trans HR0.out
        have q1 : (w5.setCell ⟨w.heap.size + 1, j, none⟩ (.int .i64 (numA l (4 * j)))).heap[w.heap.size + 1]? = some (.cells (rowOf (decK l (j + 1))) 34) := by
          rw [heap_setCell_same _ _ _ _ _ _ HR1.out, HS]
        have q2 : Below w.heap.size w (w5.setCell ⟨w.heap.size + 1, j, none⟩ (.int .i64 (numA l (4 * j)))) := hbel.setCell (p := ⟨w.heap.size + 1, j, none⟩) (Nat.le_succ _) _
        have Q0 : Hid _ := q0
        have Q1 : Hid _ := q1
        clear HS q0 q1 HR0 HR1
        generalize numA l (4 * j) = X at Q0 Q1 q2 ⊢
        go_wp2
        go_roundw
        case rel => exact ⟨j + 1, by omega, by go_num, Q0.out, Q1.out, q2⟩
        case measure => simp [intOf]; omega
      · obtain rfl : j = 5 := by omega
        rw [show ((5 : Nat) : Int) = 5 from rfl]
        have hr1' : wr.heap[w.heap.size + 1]? = some (.cells (cmA (numA l 0) (numA l 4) (numA l 8) (numA l 12) (numA l 16)) 34) := hr1
        clear hr1 hix
        have HV0 : Hid (decE l = 0 → decV l = cmA (numA l 0) (numA l 4) (numA l 8) (numA l 12) (numA l 16)) := fun h => if_pos h
        have HV1 : Hid (¬ decE l = 0 → decV l = cmA 0 0 0 0 0) := fun h => if_neg h
        have hT := ht.below hbel
        generalize numA l 0 = k at HE HV0 hr1'
        generalize numA l 4 = c at HE HV0 hr1'
        generalize numA l 8 = s at HE HV0 hr1'
        generalize numA l 12 = n at HE HV0 hr1'
        generalize numA l 16 = v at HE HV0 hr1'
        have hi := comInfo k c s n v
        have hi0 := comInfo 0 0 0 0 0
        have lt1 := (Array.getElem?_eq_some_iff.1 hr1').1
        go_wp2_with (refine wpList_load_row rfl 34 _ rfl (w.heap.size + 1) rfl 34 _ (0, 0) _ hr1' Tryd.underlying34 rfl hi ?_)
        refine (oCheck_any k c s n v wr hT).mono ?_
        rintro e w6 ⟨rfl, b6⟩
        have d6 := hbel.trans (b6.mono hbel.size)
        have q0 := (b6.block w.heap.size (by omega)).trans hr0
        have q1 := (b6.block (w.heap.size + 1) lt1).trans hr1'
        clear hr0 hr1' b6 hT hbel
        by_cases h2 : comE k c s n v = 0
        · have HZ : Hid (decE l = 0) := HE.out.trans h2
          have HV : Hid (decV l = cmA k c s n v) := HV0.out HZ.out
          rw [h2]
          clear h2 HE HV0 HV1
          go_wp2_with (first | (refine wpList_load_row rfl 34 _ rfl (w.heap.size + 1) rfl 34 _ (0, 0) _ q1 Tryd.underlying34 rfl hi ?_) | (refine wpList_store_row rfl 34 (.tmp 2) (.tmp 30) rfl w.heap.size (cmA k c s n v) rfl rfl 34 _ q0 hi rfl (cmA_one k c s n v) ?_))
          have r2 := setRow_heap w6 w.heap.size _ (cmA k c s n v) 34 _ q0
          refine bodyPost_ret (oRow2 rfl _ _ w.heap.size 34 _ (0, 0) _ rfl r2 Tryd.underlying34 rfl hi) rfl ?_
          rw [HZ.out, HV.out]
          exact ⟨rfl, oBelow_row d6 (Nat.le_refl _) _⟩
        · have HZ : Hid (decE l = comE k c s n v) := HE.out
          have HV : Hid (decV l = cmA 0 0 0 0 0) := HV1.out (by rw [HE.out]; exact h2)
          clear HE HV0 HV1
          go_wp2_with (refine wpList_store_row rfl 34 (.tmp 2) (.tmp 28) rfl w.heap.size (cmA 0 0 0 0 0) rfl rfl 34 _ q0 hi0 rfl (cmA_one 0 0 0 0 0) ?_)
          have r2 := setRow_heap w6 w.heap.size _ (cmA 0 0 0 0 0) 34 _ q0
          refine bodyPost_ret (oRow2 rfl _ _ w.heap.size 34 _ (0, 0) _ rfl r2 Tryd.underlying34 rfl hi0) rfl ?_
          rw [HZ.out, HV.out]
          exact ⟨rfl, oBelow_row d6 (Nat.le_refl _) _⟩
  · have h1' : ¬ (l.length : Int) = 20 := by omega
    have HE : Hid (decE l = 1) := if_pos h1
    have HV : Hid (decV l = cmA 0 0 0 0 0) := if_neg (by rw [HE.out]; omega)
    have bb : Below w.heap.size w (w.alloc (.cells (cmA 0 0 0 0 0) 34)) := (Below.refl _ _).alloc (Nat.le_refl _) _
    have bc := Bc.made w 0 0 0 0 0
    go_enter Tryd.func84, Tryd.ntmps84
    go_wp2
    refine bodyPost_ret (oRow2 rfl _ _ w.heap.size 34 _ (0, 0) _ rfl (heap_alloc_new _ _) Tryd.underlying34 rfl (comInfo 0 0 0 0 0)) rfl ?_
    rw [HE.out, HV.out]
    exact ⟨rfl, bb⟩
end Go.Proofs.YthmlikljeoamgaaDoor
