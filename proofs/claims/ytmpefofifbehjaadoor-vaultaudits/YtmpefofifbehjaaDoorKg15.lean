/-
  Bytes that are built. No program is named here.
-/
import Derived.Lib.AppendZeros
import Derived.Test.YtmpefofifbehjaaDoorKg1
import Derived.Test.YtmpefofifbehjaaDoorKg5
import Derived.Test.YtmpefofifbehjaaDoorKg6
import Derived.Test.YtmpefofifbehjaaDoorKg8
import Derived.Test.YtmpefofifbehjaaDoorKg9
import Derived.Test.YtmpefofifbehjaaDoorKg13
import Derived.Test.YtmpefofifbehjaaDoorKg2
import Derived.Test.YtmpefofifbehjaaDoorKg3
namespace Go.Proofs.YtmpefofifbehjaaDoor
open Go.RowKit
set_option linter.unusedVariables false

theorem Sl.builtO (w : World) (l : List Int) (e : TypeId) {g : Nat} (hg : g = w.heap.size) {n : Nat} (hn : n = l.length) (hl : l.length ≤ 140737488351232) (hb : ∀ x ∈ l, 0 ≤ x ∧ x < 256) :
    Sl (w.alloc (.cells (l.map (Value.int .u8)).toArray e)) (.slice (some ⟨g, 0, none⟩) n n) l := by
  subst hg hn
  refine ⟨⟨_, _, rfl, Nat.le_refl _, by simp, ?_⟩, hl, hb⟩
  refine .inr ⟨w.heap.size, 0, rfl, by simp, fun i hi => ?_⟩
  rw [cell_of_row _ _ (0 + i) _ _ _ (heap_alloc_new w (.cells (l.map (Value.int .u8)).toArray e))]
  simp [List.getElem?_eq_getElem hi, List.getD]

end Go.Proofs.YtmpefofifbehjaaDoor
/-
  Entries in memory. No function of the program is named here.
-/
namespace Go.Proofs.YtmpefofifbehjaaDoor
open Go.RowKit
set_option linter.unusedVariables false

theorem enSz8 : (Tryd.prog.info? 64).map (·.size) = some 8 := by kernel_rfl
def zEn : Value := .agg #[.int .i64 0, .int .i64 0, .int .i64 0, .int .i64 0, .int .i64 0, .int .i64 0, .int .i64 0, .slice none 0 0]
theorem infoEn : (Tryd.prog.info? 64).map (fun i => (i.zero, i.size, i.bytes)) = some (some zEn, 8, 80) := by kernel_rfl
end Go.Proofs.YtmpefofifbehjaaDoor
/-
  Tails of chains, and entries, in memory. No function of the program is named here.
-/
namespace Go.Proofs.YtmpefofifbehjaaDoor
open Go.RowKit
set_option linter.unusedVariables false

/-- the cells of a tail: a store, and the last sum -/
def tlA (s : Sto) (a : Option Addr) (n c : Nat) : Array Value := (stA s).push (.slice a n c)
theorem tlSize (s : Sto) (a : Option Addr) (n c : Nat) : (Tryd.prog.info? 61).map (·.size) = some (tlA s a n c).size := by show _ = some 41; kernel_rfl
theorem tlA_one (s : Sto) (a : Option Addr) (n c : Nat) : (tlA s a n c).all (·.oneCell') = true := by
  unfold tlA
  rw [Array.all_push, stA_one]
  rfl
theorem tlA_st (s : Sto) (a : Option Addr) (n c : Nat) {j : Nat} {u : Value} (h : (stA s).toList[j]? = some u) : (tlA s a n c)[j]? = some u := by
  have hj : j < 40 := by
    have := (List.getElem?_eq_some_iff.1 h).1
    rwa [Array.length_toList, stA_size] at this
  unfold tlA
  rw [Array.getElem?_push, if_neg (by rw [stA_size]; omega)]
  simpa using h
theorem tl_range {w : World} {g : Nat} {s : Sto} {a : Option Addr} {n c : Nat} (h : w.heap[g]? = some (.cells (tlA s a n c) 61)) : w.rangeAt g 0 (stA s).toList := by
  intro j u hj
  rw [Nat.zero_add, cell_of_row _ _ j _ _ _ h]
  exact tlA_st s a n c hj
theorem tl_sum {w : World} {g : Nat} {s : Sto} {a : Option Addr} {n c : Nat} (h : w.heap[g]? = some (.cells (tlA s a n c) 61)) : w.cell? ⟨g, 40, none⟩ = some (.slice a n c) :=
  (cell_of_row _ _ 40 _ _ _ h).trans rfl
theorem wpList_load_tl {ops : Array Oper} {rest : List Oper} {op : Oper} {a : Act} {w : World} {Q : Exit → Act → World → Prop} (hgd : op.guard = none) (x : Operand) (ho : op.op = .load 29 x)
    (b : Nat) (hx : a.eval x = .pointer (some ⟨b, 0, none⟩)) (s : Sto) (hc : w.rangeAt b 0 (stA s).toList)
    (h : wpList Tryd.prog ops Q rest (a.put op.dst (.agg (stA s))) w) : wpList Tryd.prog ops Q (op :: rest) a w :=
  wpList_load_mid hgd 29 x ho b 0 hx (stA s).toList _ hc Tryd.underlying29 rfl (stSize s) h
end Go.Proofs.YtmpefofifbehjaaDoor
/-
  The walk of an answer's bytes.
-/
namespace Go.Proofs.YtmpefofifbehjaaDoor
open Go.RowKit
set_option linter.unusedVariables false

set_option maxHeartbeats 1000000 in
set_option maxRecDepth 100000 in
theorem answerBytes_any (c a : Int) (w : World) (c0 : 0 ≤ c) (c1 : c < 2147483648) (a0 : 0 ≤ a) (a1 : a < 2147483648) :
    Calls Tryd.prog 48 #[.agg #[.int .i64 c, .int .i64 a]] w fun e w' => ∃ v', e = .returned v' ∧ w'.ownsRow w.heap.size 5 1 v' (headL c ++ headL a).length ((headL c ++ headL a).map (Value.int .u8)) ∧ Below w.heap.size w w' := by
  obtain ⟨n0, rfl⟩ := Int.eq_ofNat_of_zero_le c0
  obtain ⟨n1, rfl⟩ := Int.eq_ofNat_of_zero_le a0
  have bb : Below w.heap.size w (w.alloc (.cells #[.int .i64 (n0 : Int), .int .i64 (n1 : Int)] 25)) := (Below.refl _ _).alloc (Nat.le_refl _) _
  have rr := heap_alloc_new w (.cells #[.int .i64 (n0 : Int), .int .i64 (n1 : Int)] 25)
  generalize hW : w.alloc (.cells #[.int .i64 (n0 : Int), .int .i64 (n1 : Int)] 25) = W at bb rr
  have k0 : W.cell? ⟨w.heap.size, 0, none⟩ = some (.int .i64 (n0 : Int)) := cell_of_row _ _ 0 _ _ _ rr
  have k1 : W.cell? ⟨w.heap.size, 1, none⟩ = some (.int .i64 (n1 : Int)) := cell_of_row _ _ 1 _ _ _ rr
  have hz : w.heap.size ≤ W.heap.size := bb.size
  go_enter Tryd.func48, Tryd.ntmps48
  go_wp2_with fail
  clear hW k0 k1 rr
  go_loopw [3, 11] (fun v iv wr => ∃ i : Nat, i ≤ 2 ∧ iv = .int .i64 (i : Int) ∧ Hid (wr.ownsRow w.heap.size 5 1 v (([headL (n0 : Int), headL (n1 : Int)].take i).flatten).length ((([headL (n0 : Int), headL (n1 : Int)].take i).flatten).map (Value.int .u8))) ∧ Below w.heap.size w wr) (fun _ iv _ => (2 - intOf iv).toNat)
  case atStart => exact ⟨0, by omega, rfl, World.ownsRow_nil _ _ _ _, bb⟩
  case round =>
    obtain ⟨i, hi, rfl, hown0, hbel⟩ := hrel
    have hown := hown0.out
    clear hown0
    have hlt := hown.lt
    have hzz := hbel.size
    by_cases h2 : i < 2
    · have hm : ∃ m : Nat, (m : Int) < 2147483648 ∧ (∀ W, (Instr.index 95 (.agg #[.int .i64 (n0 : Int), .int .i64 (n1 : Int)]) (.int .i64 (i : Int))).run Tryd.prog W = .ok (.int .i64 (m : Int)) W) ∧ ([headL (n0 : Int), headL (n1 : Int)].take (i + 1)).flatten = ([headL (n0 : Int), headL (n1 : Int)].take i).flatten ++ headL (m : Int) := by
        rcases (by omega : i = 0 ∨ i = 1) with rfl | rfl
        · exact ⟨n0, c1, fun W => by kernel_rfl, by simp⟩
        · exact ⟨n1, a1, fun W => by kernel_rfl, by simp⟩
      obtain ⟨m, hm1, hix, hfl⟩ := hm
      have HF : Hid _ := hfl
      have hlen : (([headL (n0 : Int), headL (n1 : Int)].take i).flatten).length ≤ 8 := by
        rcases (by omega : i = 0 ∨ i = 1) with rfl | rfl <;> simp [headL]
      clear hfl
      have h2I : (i : Int) < 2 := by omega
      generalize ([headL (n0 : Int), headL (n1 : Int)].take i).flatten = pre at hown HF hlen
      have h1 : (m : Int) / 16777216 % 256 = (m : Int) / 16777216 := by omega
      have HL : Hid ([(m : Int) / 16777216, (m : Int) / 65536 % 256, (m : Int) / 256 % 256, (m : Int) % 256] = headL (m : Int)) := by
        show _ = [_, _, _, _]
        rw [h1]
      have hby : ∀ x ∈ [(m : Int) / 16777216, (m : Int) / 65536 % 256, (m : Int) / 256 % 256, (m : Int) % 256], 0 ≤ x ∧ x < 256 := by rw [HL.out]; exact headL_byte _
      have HBY : Hid _ := hby
      clear hby h1
      go_wp2_with (at_builtin; refine wpList_append_sl _ rfl _ _ 59 rfl w.heap.size 5 Tryd.underlying59 info5 _ _ rfl rfl pre [(m : Int) / 16777216, (m : Int) / 65536 % 256, (m : Int) / 256 % 256, (m : Int) % 256] (hown.alloc _) (Sl.builtO _ _ _ rfl rfl (by simp) HBY.out) (by simp; omega) (by simp; omega) ?_)
      intro v2 w2 ho2 hg2
      have hb2 : Below w.heap.size w w2 := (hbel.alloc hzz _).grown hg2 (by simp; omega) (fun k hk => (hlt k hk).1)
      have HO2 : Hid (w2.ownsRow w.heap.size 5 1 v2 (([headL (n0 : Int), headL (n1 : Int)].take (i + 1)).flatten).length ((([headL (n0 : Int), headL (n1 : Int)].take (i + 1)).flatten).map (Value.int .u8))) := by
        unfold Hid
        rw [HF.out, ← HL.out]
        simpa using ho2
      clear ho2 hg2 hown hlt hbel hix
      go_wp2
      go_roundw
      case rel => exact ⟨i + 1, by omega, by go_num, HO2, hb2⟩
      case measure => simp [intOf]; omega
    · obtain rfl : i = 2 := by omega
      have HO2 : Hid (wr.ownsRow w.heap.size 5 1 u3 (headL (n0 : Int) ++ headL (n1 : Int)).length ((headL (n0 : Int) ++ headL (n1 : Int)).map (Value.int .u8))) := by
        unfold Hid
        simpa using hown
      clear hown hlt
      go_wp2
      go_ret
      exact ⟨_, rfl, HO2.out, hbel⟩
end Go.Proofs.YtmpefofifbehjaaDoor
/-
  Lists of bytes that are joined. No program is named here.
-/
namespace Go.Proofs.YtmpefofifbehjaaDoor
open Go.RowKit

theorem flat_snoc (ls : List (List Int)) (j : Nat) (h : j < ls.length) : (ls.take (j + 1)).flatten = (ls.take j).flatten ++ ls.getD j [] := by
  rw [List.take_succ_eq_append_getElem h, List.flatten_append]
  simp [List.getD, List.getElem?_eq_getElem h]

theorem flat_le (ls : List (List Int)) (h : ∀ l ∈ ls, l.length ≤ 1000) : ls.flatten.length ≤ 1000 * ls.length := by
  induction ls with
  | nil => simp
  | cons x r ih =>
    have h1 := h x (by simp)
    have h2 := ih (fun l hl => h l (by simp [hl]))
    simp only [List.flatten_cons, List.length_append, List.length_cons]
    omega

end Go.Proofs.YtmpefofifbehjaaDoor
/-
  The walks of slices.Grow of nothing, and of slices.Concat.
-/
namespace Go.Proofs.YtmpefofifbehjaaDoor
open Go.RowKit
set_option linter.unusedVariables false

theorem zeroC_size (n : Nat) : (Builtin.zeroCells (Value.int .u8 0).cells n).size = n := by
  simp [Builtin.zeroCells, Value.cells]
set_option maxHeartbeats 1000000 in
set_option maxRecDepth 100000 in
theorem grow_nil (n : Nat) (w : World) (h0 : 0 < n) (h1 : n ≤ 20000) :
    Calls Tryd.prog 53 #[.slice none 0 0, .int .i64 (n : Int)] w fun e w' => ∃ v', e = .returned v' ∧ w'.ownsRow w.heap.size 5 1 v' 0 [] ∧ Below w.heap.size w w' := by
  obtain ⟨i0, hi, hz0, hz1, hz2⟩ := info_parts info5
  have hr := fun ty => Lib.run_append_nil_zeros (P := Tryd.prog) w 59 3 ty 5 i0 (.int .u8 0) .i64 .i64 Tryd.underlying59 Tryd.underlying3 hi hz0 n h0 (by rw [hz1]; decide) (by omega) (by rw [hz2]; omega)
  have hge := grownCap_ge w n 0 5
  have hcm := grownCap_le_maxLen w n 0 5 (by unfold maxLen; omega)
  have hcs : (Builtin.zeroCells (Value.int .u8 0).cells n ++ Builtin.zeroCells (Value.int .u8 0).cells (grownCap w n 0 5 - n)).size = grownCap w n 0 5 * 1 := by rw [Array.size_append, zeroC_size, zeroC_size]; omega
  generalize Builtin.zeroCells (Value.int .u8 0).cells n ++ Builtin.zeroCells (Value.int .u8 0).cells (grownCap w n 0 5 - n) = Z at hr hcs
  generalize grownCap w n 0 5 = cap at hr hcs hge hcm
  have bb : Below w.heap.size w (w.drew.alloc (.cells Z 5)) := ((Below.refl w.heap.size w).drew).alloc (by exact Nat.le_refl _) _
  have rr : (w.drew.alloc (.cells Z 5)).heap[w.heap.size]? = some (.cells Z 5) := heap_alloc_new _ _
  generalize w.drew.alloc (.cells Z 5) = W at hr bb rr
  have ho : W.ownsRow w.heap.size 5 1 (.slice (some ⟨w.heap.size, 0, none⟩) 0 cap) 0 [] := ⟨by simp, .inr ⟨w.heap.size, cap, Z, rfl, Nat.le_refl _, rr, by omega, hcm, hcs, by simp⟩⟩
  have hsl : ∀ W', (Instr.slice 59 (.slice (some ⟨w.heap.size, 0, none⟩) n cap) none (some (.int .i64 0)) none).run Tryd.prog W' = .ok (.slice (some ⟨w.heap.size, 0, none⟩) 0 cap) W' := fun W' => by
    rw [run_slice_h (P := Tryd.prog) W' 59 (some ⟨w.heap.size, 0, none⟩) n cap Tryd.underlying59 .i64 0 (by omega) (by omega)]
    have e : Tryd.prog.elem 59 = 5 := by kernel_rfl
    rw [e, size5w]
    simp [Result.andThen, sliced, Addr.add_mid]
  have hpos : (0 : Int) < (n : Int) := by omega
  clear rr hcs hcm hge hi hz0 hz1 hz2
  go_enter Tryd.func53, Tryd.ntmps53
  go_wp2_with (at_builtin; refine Lib.wpList_append_run _ rfl _ _ _ _ rfl _ _ rfl rfl _ _ (hr _) ?_)
  go_ret
  exact ⟨_, rfl, ho, bb⟩
set_option maxHeartbeats 1000000 in
theorem concat_any (g n cap : Nat) (vs : List Value) (ls : List (List Int)) (w : World) (hg : g < w.heap.size) (hn : n ≤ 10) (hls : ls.length = n)
    (hc : ∀ i, i < n → w.cell? ⟨g, i, none⟩ = some (vs.getD i undef)) (hs : ∀ i, i < n → Sl w (vs.getD i undef) (ls.getD i [])) (hl : ∀ l ∈ ls, l.length ≤ 1000) (hp : 0 < ls.flatten.length) :
    Calls Tryd.prog 47 #[.slice (some ⟨g, 0, none⟩) n cap] w fun e w' => ∃ v', e = .returned v' ∧ w'.ownsRow w.heap.size 5 1 v' ls.flatten.length (ls.flatten.map (Value.int .u8)) ∧ Below w.heap.size w w' := by
  have HLS : Hid (ls.length = n) := hls
  have HC : Hid _ := hc
  have HS : Hid _ := hs
  have HL : Hid _ := hl
  have HP : Hid _ := hp
  clear hls hc hs hl hp
  go_enter Tryd.func47, Tryd.ntmps47
  go_wp2_with fail
  go_loopw [3, 11] (fun sv i wr => ∃ j : Nat, j ≤ n ∧ i = .int .i64 j ∧ sv = .int .i64 ((ls.take j).flatten.length : Int) ∧ w = wr) (fun _ i _ => n - (intOf i).toNat)
  case atStart => exact ⟨0, by omega, rfl, by simp, rfl⟩
  case round =>
    obtain ⟨j, hj, rfl, rfl, rfl⟩ := hrel
    have hfl := flat_le (ls.take j) (fun l hl => HL.out l (List.mem_of_mem_take hl))
    by_cases hjn : j < n
    · have hf2 : (ls.take j).flatten.length ≤ 10000 := by rw [List.length_take] at hfl; omega
      have HF : Hid ((ls.take (j + 1)).flatten.length = (ls.take j).flatten.length + (ls.getD j []).length) := by unfold Hid; rw [flat_snoc ls j (by rw [HLS.out]; exact hjn), List.length_append]
      have sj := HS.out j hjn
      have cj := HC.out j hjn
      have hlj : (ls.getD j []).length ≤ 1000 := by
        have hj2 : j < ls.length := by rw [HLS.out]; exact hjn
        have : ls.getD j [] = ls[j] := by simp [List.getD, List.getElem?_eq_getElem hj2]
        rw [this]; exact HL.out _ (List.getElem_mem hj2)
      generalize vs.getD j undef = vj at sj cj
      generalize ls.getD j [] = lj at sj HF hlj
      generalize (ls.take j).flatten.length = pre at HF hf2
      clear hfl
      obtain ⟨⟨aj, kj, rfl, _, _, _⟩, _, _⟩ := sj
      generalize lj.length = nj at *
      go_wp2
      go_roundw
      case rel => exact ⟨j + 1, by omega, by go_num, by rw [HF.out]; go_num, by simp⟩
      case measure => simp [intOf]; omega
    · obtain rfl : j = n := by omega
      have HT : Hid (ls.take j = ls) := List.take_of_length_le (by rw [HLS.out]; exact Nat.le_refl _)
      have hz : ls.flatten.length ≤ 10000 := by rw [HT.out, HLS.out] at hfl; omega
      rw [HT.out]
      clear hfl
      have HZ := HP.out
      generalize hz2 : ls.flatten.length = Z at hz HZ
      have HZZ : Hid (ls.flatten.length = Z) := hz2
      clear hz2
      go_wp2_with fail
      refine (grow_nil Z w HZ (by omega)).mono ?_
      rintro e w1 ⟨v1, rfl, ho1, hb1⟩
      clear HZ hz
      obtain ⟨g1, c1, rfl⟩ := tOwns_shape ho1
      have HO1 : Hid (w1.ownsRow w.heap.size 5 1 (.slice g1 0 c1) (ls.take 0).flatten.length ((ls.take 0).flatten.map (Value.int .u8))) := by unfold Hid; simpa using ho1
      clear ho1
      go_wp2_with fail
      go_loopw [6, 27] (fun v i wr => ∃ k : Nat, k ≤ j ∧ i = .int .i64 k ∧ Hid (wr.ownsRow w.heap.size 5 1 v (ls.take k).flatten.length ((ls.take k).flatten.map (Value.int .u8))) ∧ Below w.heap.size w wr) (fun _ i _ => j - (intOf i).toNat)
      case atStart => exact ⟨0, by omega, rfl, HO1, hb1⟩
      case round =>
        obtain ⟨k, hk, rfl, hown0, hb⟩ := hrel
        have hown := hown0.out
        clear hown0 HO1 hb1
        have hlt := hown.lt
        by_cases hkn : k < j
        · have hfl := flat_le (ls.take k) (fun l hl => HL.out l (List.mem_of_mem_take hl))
          have hf2 : (ls.take k).flatten.length ≤ 10000 := by rw [List.length_take] at hfl; omega
          have HF : Hid ((ls.take (k + 1)).flatten = (ls.take k).flatten ++ ls.getD k []) := flat_snoc ls k (by rw [HLS.out]; exact hkn)
          have sj := (HS.out k hkn).below hb
          have cj := (hb.cell (p := ⟨g, k, none⟩) hg).trans (HC.out k hkn)
          have hlj : (ls.getD k []).length ≤ 1000 := by
            have hj2 : k < ls.length := by rw [HLS.out]; exact hkn
            have : ls.getD k [] = ls[k] := by simp [List.getD, List.getElem?_eq_getElem hj2]
            rw [this]; exact HL.out _ (List.getElem_mem hj2)
          generalize vs.getD k undef = vj at sj cj
          generalize ls.getD k [] = lj at sj HF hlj
          generalize (ls.take k).flatten = pre at hown HF hf2
          clear hfl
          have sj2 := sj
          obtain ⟨⟨aj, kj, rfl, _, _, _⟩, _, _⟩ := sj
          go_wp2_with (at_builtin; refine wpList_append_sl _ rfl _ _ 59 rfl w.heap.size 5 Tryd.underlying59 info5 _ _ rfl rfl pre lj hown sj2 (by omega) hb.size ?_)
          intro v2 w2 ho2 hg2
          have ho2' : w2.ownsRow w.heap.size 5 1 v2 (pre ++ lj).length ((pre ++ lj).map (Value.int .u8)) := by simpa using ho2
          have hb2 : Below w.heap.size w w2 := hb.grown hg2 hb.size (fun k hk => (hlt k hk).1)
          clear ho2 hg2 hown hlt hb sj2 cj
          go_wp2
          go_roundw
          case rel => exact ⟨k + 1, by omega, by go_num, by rw [HF.out]; exact ho2', hb2⟩
          case measure => simp [intOf]; omega
        · have HJ : Hid (ls.take k = ls) := by unfold Hid; exact List.take_of_length_le (by rw [HLS.out]; omega)
          go_wp2
          go_ret
          refine ⟨u6, rfl, ?_, hb⟩
          rw [HJ.out] at hown
          exact hown
theorem concat3 (v0 v1 v2 : Value) (l0 l1 l2 : List Int) (w : World) (e : TypeId) (g : Nat) (hg : g = w.heap.size) (h0 : Sl w v0 l0) (h1 : Sl w v1 l1) (h2 : Sl w v2 l2) (q0 : l0.length ≤ 1000) (q1 : l1.length ≤ 1000) (q2 : l2.length ≤ 1000) (q3 : 0 < l0.length) :
    Calls Tryd.prog 47 #[.slice (some ⟨g, 0, none⟩) 3 3] (w.alloc (.cells #[v0, v1, v2] e)) fun e w' => ∃ v', e = .returned v' ∧ w'.ownsRow w.heap.size 5 1 v' (l0 ++ (l1 ++ l2)).length ((l0 ++ (l1 ++ l2)).map (Value.int .u8)) ∧ Below w.heap.size w w' := by
  subst hg
  have ba : Below w.heap.size w (w.alloc (.cells #[v0, v1, v2] e)) := (Below.refl _ _).alloc (Nat.le_refl _) _
  refine (concat_any w.heap.size 3 3 [v0, v1, v2] [l0, l1, l2] (w.alloc (.cells #[v0, v1, v2] e)) (by simp) (by omega) rfl ?_ ?_ ?_ ?_).mono ?_
  · intro i hi
    rw [cell_of_row _ _ i _ _ _ (heap_alloc_new w _)]
    obtain rfl | rfl | rfl : i = 0 ∨ i = 1 ∨ i = 2 := by omega
    all_goals rfl
  · intro i hi
    obtain rfl | rfl | rfl : i = 0 ∨ i = 1 ∨ i = 2 := by omega
    · exact h0.below ba
    · exact h1.below ba
    · exact h2.below ba
  · intro l hl
    simp only [List.mem_cons, List.not_mem_nil, or_false] at hl
    rcases hl with rfl | rfl | rfl
    · exact q0
    · exact q1
    · exact q2
  · simp; omega
  · rintro e w2 ⟨v2, rfl, ho, hb⟩
    exact ⟨v2, rfl, owns_lower (by simpa using ho) (by simp), ba.trans (hb.mono (by simp))⟩
end Go.Proofs.YtmpefofifbehjaaDoor
/-
  The walk of what pads the bytes of a digest.
-/
namespace Go.Proofs.YtmpefofifbehjaaDoor
open Go.RowKit

def lenOf : Value → Nat
  | .slice _ n _ => n
  | _ => 0

set_option maxRecDepth 100000 in
theorem owns_lenOf {w : World} {base e : Nat} {v : Value} {n : Nat} {xs : List Value} (h : w.ownsRow base e 1 v n xs) : lenOf v = n := by
  rcases h.2 with ⟨rfl, rfl⟩ | ⟨g, cap, cur, rfl, _⟩ <;> rfl

set_option maxRecDepth 100000 in
theorem padded_any (v : Value) (l : List Int) (w : World) (h : Sl w v l) (hl : l.length ≤ 100000) :
    Calls Tryd.prog 58 #[v] w fun e w' => ∃ v', e = .returned v' ∧ w'.ownsRow w.heap.size 5 1 v' (pad l).length ((pad l).map (Value.int .u8)) ∧ Below w.heap.size w w' := by
  have hs := h
  obtain ⟨⟨a, cap, rfl, hc, hn, h1⟩, hla, hba⟩ := h
  clear h1 hn hba
  obtain ⟨i0, hi, hz0, hz1, hz2⟩ := info_parts info5
  go_enter Tryd.func58, Tryd.ntmps58
  go_wp2_with (at_make; refine wpList_make_own _ rfl _ _ 59 rfl w.heap.size 5 i0 (.int .u8 0) 1 Tryd.underlying59 hi hz0 hz1 _ _ _ (l.length + 128) rfl rfl (by omega) (by rw [hz2]; omega) (by unfold maxLen; omega) (Nat.le_refl _) ?_)
  intro w1 ho1 hg1
  have hb1 : Below w.heap.size w w1 := (Below.refl _ _).grown hg1 (Nat.le_refl _) (by simp)
  have ho1' : w1.ownsRow w.heap.size 5 1 (.slice (some ⟨w.heap.size, 0, none⟩) 0 (l.length + 128)) ([] : List Int).length (([] : List Int).map (Value.int .u8)) := ho1
  clear ho1 hg1
  go_wp2_with (at_builtin; refine wpList_append_sl _ rfl _ _ 59 rfl w.heap.size 5 Tryd.underlying59 info5 _ _ rfl rfl [] l ho1' (hs.below hb1) (by simp; omega) hb1.size ?_)
  intro v2 w2 ho2 hg2
  have ho2' : w2.ownsRow w.heap.size 5 1 v2 l.length (l.map (Value.int .u8)) := by simpa using ho2
  have hb2 : Below w.heap.size w w2 := hb1.grown hg2 hb1.size (by simp [Value.ownBlock])
  have hlt2 := ho2'.lt
  clear ho1' hg2 hb1 ho2
  go_wp2_with (at_builtin; refine wpList_append_sl _ rfl _ _ 59 rfl w.heap.size 5 Tryd.underlying59 info5 _ _ rfl rfl l [128] (ho2'.alloc _) (Sl.one _ _ _ rfl (by omega)) (by simp; omega) (by have := hb2.size; simp; omega) ?_)
  intro v3 w3 ho3 hg3
  have ho3' : w3.ownsRow w.heap.size 5 1 v3 (padTo l 0).length ((padTo l 0).map (Value.int .u8)) := by simpa [padTo] using ho3
  have hb3 : Below w.heap.size w w3 := (hb2.alloc hb2.size _).grown hg3 (by have := hb2.size; simp; omega) (fun k hk => (hlt2 k hk).1)
  clear ho3 hg3 hb2 hlt2 ho2'
  go_wp2
  go_loopw [3] (fun v wr => ∃ j : Nat, j ≤ zeros l.length ∧ wr.ownsRow w.heap.size 5 1 v (padTo l j).length ((padTo l j).map (Value.int .u8)) ∧ Below w.heap.size w wr) (fun v _ => zeros l.length + l.length + 1 - lenOf v)
  case atStart => exact ⟨0, Nat.zero_le _, ho3', hb3⟩
  case round =>
    clear ho3' hb3
    obtain ⟨j, hj, hown, hb⟩ := hrel
    obtain ⟨g, cp, hv, hgB, hgs, hcp, hcell, hfr⟩ := owns_shape hown (by simp [padTo])
    rw [padTo_length] at hv
    subst hv
    clear hcell hfr hcp
    have hz : zeros l.length ≤ 63 := by unfold zeros; omega
    have hlt := hown.lt
    by_cases hjz : j < zeros l.length
    · have hne : ¬ ((l.length + 1 + j) % 64 = 56) := by unfold zeros at hjz; omega
      go_wp2_with (at_builtin; refine wpList_append_sl _ rfl _ _ 59 rfl w.heap.size 5 Tryd.underlying59 info5 _ _ rfl rfl (padTo l j) [0] (hown.alloc _) (Sl.one _ _ _ rfl (by omega)) (by rw [padTo_length]; simp; omega) (by have := hb.size; simp; omega) ?_)
      intro v4 w4 ho4 hg4
      have ho4' : w4.ownsRow w.heap.size 5 1 v4 (padTo l (j + 1)).length ((padTo l (j + 1)).map (Value.int .u8)) := by rw [← padTo_succ]; simpa using ho4
      have hb4 : Below w.heap.size w w4 := (hb.alloc hb.size _).grown hg4 (by have := hb.size; simp; omega) (fun k hk => (hlt k hk).1)
      have hl4 := owns_lenOf ho4'
      rw [padTo_length] at hl4
      have HL : Hid (lenOf v4 = l.length + 1 + (j + 1)) := hl4
      clear hl4 ho4 hg4 hown hlt hb
      go_wp2
      go_roundw
      case rel => exact ⟨j + 1, hjz, ho4', hb4⟩
      case measure =>
        have hl4 := HL.out
        show zeros l.length + l.length + 1 - lenOf v4 < zeros l.length + l.length + 1 - (l.length + 1 + j)
        rw [hl4]
        omega
    · have heq : (l.length + 1 + j) % 64 = 56 := by unfold zeros at hjz hj; omega
      have H56 : Hid ((l.length + 1 + j) % 64 = 56) := heq
      have h56 : (((l.length : Int) + 1 + j) % 64 != 56) = false := by simp; omega
      have ejz : j = zeros l.length := by omega
      have EJ : Hid (j = zeros l.length) := ejz
      clear heq ejz
      go_wp2_with fail
      go_loopw [3, 5] (fun v s wr => ∃ k : Nat, k ≤ 8 ∧ s = .int .i64 (56 - 8 * (k : Int)) ∧ wr.ownsRow w.heap.size 5 1 v (padTo l j ++ (lenBytes l.length).take k).length ((padTo l j ++ (lenBytes l.length).take k).map (Value.int .u8)) ∧ Below w.heap.size w wr) (fun _ s _ => (intOf s + 8).toNat)
      case atStart => exact ⟨0, by omega, rfl, by simpa using hown, hb⟩
      case round =>
        clear hown hb hlt hgs
        obtain ⟨k, hk, rfl, hown, hb⟩ := hrel
        have hlt := hown.lt
        by_cases hk8 : k < 8
        · go_wp2_with (at_builtin; refine wpList_append_sl _ rfl _ _ 59 rfl w.heap.size 5 Tryd.underlying59 info5 _ _ rfl rfl _ _ (hown.alloc _) (Sl.one _ _ _ rfl ?_) (by rw [List.length_append, padTo_length, List.length_take]; simp; omega) (by have := hb.size; simp; omega) ?_)
          · omega
          intro v5 w5 ho5 hg5
          have ho5' : w5.ownsRow w.heap.size 5 1 v5 (padTo l j ++ (lenBytes l.length).take (k + 1)).length ((padTo l j ++ (lenBytes l.length).take (k + 1)).map (Value.int .u8)) := by
            rw [lenBytes_take _ _ hk8]
            simpa using ho5
          have hb5 : Below w.heap.size w w5 := (hb.alloc hb.size _).grown hg5 (by have := hb.size; simp; omega) (fun k hk => (hlt k hk).1)
          clear ho5 hg5 hown hlt hb
          go_wp2
          go_roundw
          case rel => exact ⟨k + 1, by omega, by go_num, ho5', hb5⟩
          case measure => simp [intOf]; omega
        · obtain rfl : k = 8 := by omega
          go_wp2
          go_ret
          refine ⟨u3, rfl, ?_, hb⟩
          unfold pad
          rw [← EJ.out]
          exact hown
end Go.Proofs.YtmpefofifbehjaaDoor
