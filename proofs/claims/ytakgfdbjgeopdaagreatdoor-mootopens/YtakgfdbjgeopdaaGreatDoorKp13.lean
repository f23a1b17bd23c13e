/-
  Bytes that outlive a store into a row that holds none. No program is named here.
-/
import Derived.Deep.RegionWith
import Derived.Lib.SlBytesRow
import Derived.Test.YtakgfdbjgeopdaaGreatDoorKp11
import Derived.Test.YtakgfdbjgeopdaaGreatDoorKp2
import Derived.Test.YtakgfdbjgeopdaaGreatDoorKp1
import Derived.Test.YtakgfdbjgeopdaaGreatDoorKp10
namespace Go.Proofs.YtakgfdbjgeopdaaGreatDoor
open Go.RowKit
set_option linter.unusedVariables false

def notByte : Value → Bool
  | .int .u8 _ => false
  | _ => true
theorem noByte_of (cs : Array Value) (h : cs.all notByte = true) : ∀ (i : Nat) (x : Int), cs[i]? ≠ some (.int .u8 x) := by
  intro i x e
  have hm := Array.mem_of_getElem? e
  have := Array.all_eq_true_iff_forall_mem.1 h _ hm
  simp [notByte] at this
/-- a row without bytes is set: bytes stay -/
theorem Sl.otherRow {w : World} {v : Value} {l : List Int} (h : Sl w v l) {g : Nat} {cs : Array Value} {t : TypeId} {fr : Nat × Nat} (hg : w.heap[g]? = some (.cells cs t fr)) (hno : ∀ (i : Nat) (x : Int), cs[i]? ≠ some (.int .u8 x)) (cs' : Array Value) : Sl (w.setRow g cs') v l := by
  obtain ⟨⟨a, cap, rfl, hc, hn, h1⟩, h2, h3⟩ := h
  refine ⟨⟨a, cap, rfl, hc, hn, ?_⟩, h2, h3⟩
  rcases h1 with h1 | ⟨b, off, rfl, hbs, hcell⟩
  · exact .inl h1
  · refine .inr ⟨b, off, rfl, by simpa using hbs, fun i hi => ?_⟩
    have hne : b ≠ g := by
      rintro rfl
      have h7 := hcell i hi
      rw [cell_of_row _ _ _ _ _ _ hg] at h7
      exact hno _ _ h7
    rw [← hcell i hi]
    exact World.cell?_of_block (w := w) (setRow_other w g b cs' hne)
/-- thirty-two bytes in a row of their own -/
structure So (w : World) (g c : Nat) (l : List Int) : Prop where
  sl : Sl w (.slice (some ⟨g, 0, none⟩) 32 c) l
  cel : ∃ cs, w.heap[g]? = some (.cells cs 5)
  len : l.length = 32
theorem So.lt {w : World} {g c : Nat} {l : List Int} (h : So w g c l) : g < w.heap.size := by
  obtain ⟨cs, hg⟩ := h.cel
  exact (Array.getElem?_eq_some_iff.1 hg).1
theorem So.below {w w' : World} {g c : Nat} {l : List Int} (h : So w g c l) (b : Below w.heap.size w w') : So w' g c l := by
  obtain ⟨cs, hg⟩ := h.cel
  exact ⟨h.sl.below b, ⟨cs, (b.block g h.lt).trans hg⟩, h.len⟩
/-- its first cell is a byte -/
theorem So.byte0 {w : World} {g c : Nat} {l : List Int} (h : So w g c l) : ∃ x, w.cell? ⟨g, 0, none⟩ = some (.int .u8 x) := by
  obtain ⟨⟨a, cp, e, _, _, h1⟩, _, _⟩ := h.sl
  rcases h1 with h1 | ⟨b, off, ha, _, hcell⟩
  · have := h.len; rw [h1] at this; cases this
  · simp only [Value.slice.injEq] at e
    obtain ⟨e, _, _⟩ := e
    rw [ha] at e
    simp only [Option.some.injEq, Addr.mk.injEq] at e
    obtain ⟨rfl, rfl, _⟩ := e
    have := hcell 0 (by have := h.len; omega)
    exact ⟨_, this⟩
theorem So.otherRow {w : World} {g c : Nat} {l : List Int} (h : So w g c l) {q : Nat} {cs : Array Value} {t : TypeId} {fr : Nat × Nat} (hg : w.heap[q]? = some (.cells cs t fr)) (hno : ∀ (i : Nat) (x : Int), cs[i]? ≠ some (.int .u8 x)) (cs' : Array Value) : So (w.setRow q cs') g c l := by
  obtain ⟨cs0, hg0⟩ := h.cel
  have hne : g ≠ q := by
    intro e
    subst e
    obtain ⟨x, hx⟩ := h.byte0
    rw [cell_of_row _ _ 0 _ _ _ hg] at hx
    exact hno 0 x hx
  exact ⟨h.sl.otherRow hg hno cs', ⟨cs0, (setRow_other w q g cs' hne).trans hg0⟩, h.len⟩
theorem So.ofOwns {w : World} {base : Nat} {v : Value} {l : List Int} (h : w.ownsRow base 5 1 v 32 (l.map (Value.int .u8))) (hl : l.length = 32) (hb : ∀ x ∈ l, 0 ≤ x ∧ x < 256) : ∃ g c, v = .slice (some ⟨g, 0, none⟩) 32 c ∧ base ≤ g ∧ So w g c l := by
  have hs := Sl.ofOwns (l := l) (by rw [hl]; exact h) (by rw [hl]; omega) hb
  rcases h.2 with ⟨_, h0⟩ | ⟨g, cap, cur, rfl, hbg, hg, _⟩
  · cases h0
  · exact ⟨g, cap, rfl, hbg, hs, ⟨cur, hg⟩, hl⟩
end Go.Proofs.YtakgfdbjgeopdaaGreatDoor
/-
  The walk of what pads the bytes of a digest.
-/
namespace Go.Proofs.YtakgfdbjgeopdaaGreatDoor
open Go.RowKit

def lenOf : Value → Nat
  | .slice _ n _ => n
  | _ => 0

set_option maxRecDepth 100000 in
theorem owns_lenOf {w : World} {base e : Nat} {v : Value} {n : Nat} {xs : List Value} (h : w.ownsRow base e 1 v n xs) : lenOf v = n := by
  rcases h.2 with ⟨rfl, rfl⟩ | ⟨g, cap, cur, rfl, _⟩ <;> rfl

set_option maxRecDepth 100000 in
theorem padded_any (v : Value) (l : List Int) (w : World) (h : Sl w v l) (hl : l.length ≤ 100000) :
    Calls Tryz.prog 174 #[v] w fun e w' => ∃ v', e = .returned v' ∧ w'.ownsRow w.heap.size 5 1 v' (pad l).length ((pad l).map (Value.int .u8)) ∧ Below w.heap.size w w' := by
  have hs := h
  obtain ⟨⟨a, cap, rfl, hc, hn, h1⟩, hla, hba⟩ := h
  clear h1 hn hba
  obtain ⟨i0, hi, hz0, hz1, hz2⟩ := info_parts info5
  go_enter Tryz.func174, Tryz.ntmps174
  go_wp2_with (at_make; refine wpList_make_own _ rfl _ _ 26 rfl w.heap.size 5 i0 (.int .u8 0) 1 Tryz.underlying26 hi hz0 hz1 _ _ _ (l.length + 128) rfl rfl (by omega) (by rw [hz2]; omega) (by unfold maxLen; omega) (Nat.le_refl _) ?_)
  intro w1 ho1 hg1
  have hb1 : Below w.heap.size w w1 := (Below.refl _ _).grown hg1 (Nat.le_refl _) (by simp)
  have ho1' : w1.ownsRow w.heap.size 5 1 (.slice (some ⟨w.heap.size, 0, none⟩) 0 (l.length + 128)) ([] : List Int).length (([] : List Int).map (Value.int .u8)) := ho1
  clear ho1 hg1
  go_wp2_with (at_builtin; refine wpList_append_sl _ rfl _ _ 26 rfl w.heap.size 5 Tryz.underlying26 info5 _ _ rfl rfl [] l ho1' (hs.below hb1) (by simp; omega) hb1.size ?_)
  intro v2 w2 ho2 hg2
  have ho2' : w2.ownsRow w.heap.size 5 1 v2 l.length (l.map (Value.int .u8)) := by simpa using ho2
  have hb2 : Below w.heap.size w w2 := hb1.grown hg2 hb1.size (by simp [Value.ownBlock])
  have hlt2 := ho2'.lt
  clear ho1' hg2 hb1 ho2
  go_wp2_with (at_builtin; refine wpList_append_sl _ rfl _ _ 26 rfl w.heap.size 5 Tryz.underlying26 info5 _ _ rfl rfl l [128] (ho2'.alloc _) (Sl.one _ _ _ rfl (by omega)) (by simp; omega) (by have := hb2.size; simp; omega) ?_)
  intro v3 w3 ho3 hg3
  have ho3' : w3.ownsRow w.heap.size 5 1 v3 (padTo l 0).length ((padTo l 0).map (Value.int .u8)) := by simpa [padTo] using ho3
  have hb3 : Below w.heap.size w w3 := (hb2.alloc hb2.size _).grown hg3 (by have := hb2.size; simp; omega) (fun k hk => (hlt2 k hk).1)
  clear ho3 hg3 hb2 hlt2 ho2'
  go_wp2
  go_loopw [3] (fun v wr => ∃ j : Nat, j ≤ zeros l.length ∧ wr.ownsRow w.heap.size 5 1 v (padTo l j).length ((padTo l j).map (Value.int .u8)) ∧ Below w.heap.size w wr) (fun v _ => zeros l.length + l.length + 1 - lenOf v)
  case atStart => exact ⟨0, Nat.zero_le _, ho3', hb3⟩
  case round =>
    clear ho3' hb3
    obtain ⟨j, hj, hown, hb⟩ := hrel
    obtain ⟨g, cp, hv, hgB, hgs, hcp, hcell, hfr⟩ := owns_shape hown (by simp [padTo])
    rw [padTo_length] at hv
    subst hv
    clear hcell hfr hcp
    have hz : zeros l.length ≤ 63 := by unfold zeros; omega
    have hlt := hown.lt
    by_cases hjz : j < zeros l.length
    · have hne : ¬ ((l.length + 1 + j) % 64 = 56) := by unfold zeros at hjz; omega
      go_wp2_with (at_builtin; refine wpList_append_sl _ rfl _ _ 26 rfl w.heap.size 5 Tryz.underlying26 info5 _ _ rfl rfl (padTo l j) [0] (hown.alloc _) (Sl.one _ _ _ rfl (by omega)) (by rw [padTo_length]; simp; omega) (by have := hb.size; simp; omega) ?_)
      intro v4 w4 ho4 hg4
      have ho4' : w4.ownsRow w.heap.size 5 1 v4 (padTo l (j + 1)).length ((padTo l (j + 1)).map (Value.int .u8)) := by rw [← padTo_succ]; simpa using ho4
      have hb4 : Below w.heap.size w w4 := (hb.alloc hb.size _).grown hg4 (by have := hb.size; simp; omega) (fun k hk => (hlt k hk).1)
      have hl4 := owns_lenOf ho4'
      rw [padTo_length] at hl4
      have HL : Hid (lenOf v4 = l.length + 1 + (j + 1)) := hl4
      clear hl4 ho4 hg4 hown hlt hb
      go_wp2
      go_roundw
      case rel => exact ⟨j + 1, hjz, ho4', hb4⟩
      case measure =>
        have hl4 := HL.out
        show zeros l.length + l.length + 1 - lenOf v4 < zeros l.length + l.length + 1 - (l.length + 1 + j)
        rw [hl4]
        omega
    · have heq : (l.length + 1 + j) % 64 = 56 := by unfold zeros at hjz hj; omega
      have H56 : Hid ((l.length + 1 + j) % 64 = 56) := heq
      have h56 : (((l.length : Int) + 1 + j) % 64 != 56) = false := by simp; omega
      have ejz : j = zeros l.length := by omega
      have EJ : Hid (j = zeros l.length) := ejz
      clear heq ejz
      go_wp2_with fail
      go_loopw [3, 5] (fun v s wr => ∃ k : Nat, k ≤ 8 ∧ s = .int .i64 (56 - 8 * (k : Int)) ∧ wr.ownsRow w.heap.size 5 1 v (padTo l j ++ (lenBytes l.length).take k).length ((padTo l j ++ (lenBytes l.length).take k).map (Value.int .u8)) ∧ Below w.heap.size w wr) (fun _ s _ => (intOf s + 8).toNat)
      case atStart => exact ⟨0, by omega, rfl, by simpa using hown, hb⟩
      case round =>
        clear hown hb hlt hgs
        obtain ⟨k, hk, rfl, hown, hb⟩ := hrel
        have hlt := hown.lt
        by_cases hk8 : k < 8
        · go_wp2_with (at_builtin; refine wpList_append_sl _ rfl _ _ 26 rfl w.heap.size 5 Tryz.underlying26 info5 _ _ rfl rfl _ _ (hown.alloc _) (Sl.one _ _ _ rfl ?_) (by rw [List.length_append, padTo_length, List.length_take]; simp; omega) (by have := hb.size; simp; omega) ?_)
          · omega
          intro v5 w5 ho5 hg5
          have ho5' : w5.ownsRow w.heap.size 5 1 v5 (padTo l j ++ (lenBytes l.length).take (k + 1)).length ((padTo l j ++ (lenBytes l.length).take (k + 1)).map (Value.int .u8)) := by
            rw [lenBytes_take _ _ hk8]
            simpa using ho5
          have hb5 : Below w.heap.size w w5 := (hb.alloc hb.size _).grown hg5 (by have := hb.size; simp; omega) (fun k hk => (hlt k hk).1)
          clear ho5 hg5 hown hlt hb
          go_wp2
          go_roundw
          case rel => exact ⟨k + 1, by omega, by go_num, ho5', hb5⟩
          case measure => simp [intOf]; omega
        · obtain rfl : k = 8 := by omega
          go_wp2
          go_ret
          refine ⟨u3, rfl, ?_, hb⟩
          unfold pad
          rw [← EJ.out]
          exact hown
end Go.Proofs.YtakgfdbjgeopdaaGreatDoor
/-
  The walks of the writing of words as bytes, and of the digest itself.
-/
namespace Go.Proofs.YtakgfdbjgeopdaaGreatDoor
open Go.RowKit

set_option maxRecDepth 100000 in
theorem written_any (s : St) (w : World) :
    Calls Tryz.prog 177 #[.agg s.cells] w fun e w' => ∃ v', e = .returned v' ∧ w'.ownsRow w.heap.size 5 1 v' (bytesS s).length ((bytesS s).map (Value.int .u8)) ∧ Below w.heap.size w w' := by
  obtain ⟨i0, hi, hz0, hz1, hz2⟩ := info_parts info5
  unfold St.cells
  go_enter Tryz.func177, Tryz.ntmps177
  go_wp2_with (at_make; refine wpList_make_own _ rfl _ _ 26 rfl w.heap.size 5 i0 (.int .u8 0) 1 Tryz.underlying26 hi hz0 hz1 _ _ _ 32 rfl rfl (by omega) (by rw [hz2]; omega) (by unfold maxLen; omega) (by simp) ?_)
  intro w1 ho1 hg1
  have hb1 : Below w.heap.size w w1 := ((Below.refl _ _).alloc (Nat.le_refl _) _).grown hg1 (by simp) (by simp)
  have hrow : w1.heap[w.heap.size]? = some (.cells #[.int .u32 (uw s.a), .int .u32 (uw s.b), .int .u32 (uw s.c), .int .u32 (uw s.d), .int .u32 (uw s.e), .int .u32 (uw s.f), .int .u32 (uw s.g), .int .u32 (uw s.h)] 225 (0, 0)) := by
    rw [hg1.block w.heap.size (by simp) (by simp)]
    exact heap_alloc_new _ _
  have ho1' : w1.ownsRow w.heap.size 5 1 (.slice (some ⟨w.heap.size + 1, 0, none⟩) 0 32) (bytesL (s.list.take 0)).length ((bytesL (s.list.take 0)).map (Value.int .u8)) := ho1
  clear ho1 hg1
  go_wp2_with (refine wpList_load_row rfl 225 _ rfl w.heap.size rfl 225 _ (0, 0) _ hrow Tryz.underlying225 rfl (by kernel_rfl) ?_)
  go_loopw [3, 8] (fun v i wr => ∃ k : Nat, k ≤ 8 ∧ i = .int .i64 k ∧ wr.ownsRow w.heap.size 5 1 v (bytesL (s.list.take k)).length ((bytesL (s.list.take k)).map (Value.int .u8)) ∧ Below w.heap.size w wr) (fun _ i _ => 8 - (intOf i).toNat)
  case atStart => exact ⟨0, by omega, rfl, ho1', hb1⟩
  case round =>
    clear ho1' hb1 hrow
    obtain ⟨k, hk, rfl, hown, hb⟩ := hrel
    have hlt := hown.lt
    by_cases hk8 : k < 8
    · have hix := index8 s k hk8
      have hlen := bytesL_length (s.list.take k)
      have HT : Hid (s.list.take (k + 1) = s.list.take k ++ [s.list.getD k 0#32]) := by
        unfold Hid
        rw [List.take_succ_eq_append_getElem (by simpa [St.list] using hk8)]
        simp [List.getD, List.getElem?_eq_getElem (show k < s.list.length by simpa [St.list] using hk8)]
      have hkl : (s.list.take k).length ≤ 8 := by rw [List.length_take]; omega
      generalize s.list.take k = pre at hown hlen HT hkl
      generalize s.list.getD k 0#32 = x at hix HT
      have nx := uw_lo x
      go_wp2_with (at_builtin; refine wpList_append_sl _ rfl _ _ 26 rfl w.heap.size 5 Tryz.underlying26 info5 _ _ rfl rfl (bytesL pre) (bytesW x) (hown.alloc _) ?_ (by rw [hlen]; simp [bytesW]; omega) (by have := hb.size; simp; omega) ?_)
      · exact Sl.built wr (bytesW x) 5 rfl (by simp [bytesW]) (bytesW_byte x)
      intro v' w' ho hg
      have ho' : w'.ownsRow w.heap.size 5 1 v' (bytesL (pre ++ [x])).length ((bytesL (pre ++ [x])).map (Value.int .u8)) := by
        rw [bytesL_snoc]
        simpa [bytesL_length] using ho
      have hb' : Below w.heap.size w w' := (hb.alloc hb.size _).grown hg (by have := hb.size; simp; omega) (fun k hk => (hlt k hk).1)
      clear ho hg hown hlt hb
      go_wp2
      go_roundw
      case rel => exact ⟨k + 1, by omega, by go_num, by rw [HT.out]; exact ho', hb'⟩
      case measure => simp [intOf]; omega
    · have HK : Hid (k = 8) := by unfold Hid; omega
      go_wp2
      go_ret
      refine ⟨u3, rfl, ?_, hb⟩
      rw [HK.out] at hown
      exact hown

set_option maxRecDepth 100000 in
theorem bcell {W w1 : World} (hb : Below W.heap.size W w1) : (∀ b o, b < W.heap.size → w1.cell? ⟨b, o, none⟩ = W.cell? ⟨b, o, none⟩) ∧ (∀ b o, b < W.heap.size → w1.frozen? ⟨b, o, none⟩ = W.frozen? ⟨b, o, none⟩) :=
  ⟨fun b o h => hb.cell (p := ⟨b, o, none⟩) h, fun b o h => hb.frozen (p := ⟨b, o, none⟩) h⟩

set_option maxRecDepth 100000 in
theorem size5 (w : World) : (Go.sizeOf 5).run Tryz.prog w = .ok 1 w := by
  obtain ⟨i, hi, _, hsz, _⟩ := info_parts info5
  simp [sizeOf, typeInfo, hi, hsz]

set_option maxRecDepth 100000 in
theorem slice64 (g n cp k : Nat) (hk : 64 * k + 64 ≤ 64 * n) (hcp : 64 * n ≤ cp) : ∀ W, (Instr.slice 26 (.slice (some ⟨g, 0, none⟩) (64 * n) cp) (some (.int .i64 (64 * (k : Int)))) (some (.int .i64 (64 * (k : Int) + 64))) none).run Tryz.prog W = .ok (.slice (some ⟨g, 64 * k, none⟩) 64 (cp - 64 * k)) W := by
  intro W
  have := Lib.run_slice_window (P := Tryz.prog) W 26 5 Tryz.underlying26 size5 g 0 (64 * n) cp (64 * k) (64 * k + 64) (by omega) (by omega)
  rw [show 64 * k + 64 - 64 * k = 64 by omega, Nat.zero_add] at this
  rw [← this]
  rfl

set_option maxRecDepth 100000 in
theorem store8 {w : World} {g : Nat} {old : Array Value} (s : St) (hg : w.heap[g]? = some (.cells old 225 (0, 0))) (ho : old.size = 8) : (storeCells ⟨g, 0, none⟩ s.cells.toList).run Tryz.prog w = .ok () (w.setRow g s.cells) := by
  have := run_storeCells_from (P := Tryz.prog) g 225 s.cells.toList 0 old w hg (by simp [St.cells]; omega) (fun v hv => by simp [St.cells] at hv; rcases hv with rfl | rfl | rfl | rfl | rfl | rfl | rfl | rfl <;> rfl)
  simpa using this

set_option maxRecDepth 100000 in
theorem Sl.setRowNe {w : World} {b off n cap : Nat} {l : List Int} (h : Sl w (.slice (some ⟨b, off, none⟩) n cap) l) {g : Nat} (hg : g < b) (cs : Array Value) : Sl (w.setRow g cs) (.slice (some ⟨b, off, none⟩) n cap) l := by
  obtain ⟨⟨a, cap', e, hc, hn, h1⟩, h2, h3⟩ := h
  refine ⟨⟨a, cap', e, hc, hn, ?_⟩, h2, h3⟩
  simp only [Value.slice.injEq] at e
  obtain ⟨rfl, _, _⟩ := e
  rcases h1 with h1 | ⟨b', off', e', hbs, hcell⟩
  · exact .inl h1
  · simp only [Option.some.injEq, Addr.mk.injEq, and_true] at e'
    obtain ⟨rfl, rfl⟩ := e'
    refine .inr ⟨b, off, rfl, by simpa using hbs, fun i hi => ?_⟩
    rw [← hcell i hi]
    exact World.cell?_of_block (w := w) (setRow_other w g b cs (by omega))

set_option maxRecDepth 100000 in
theorem blocks (l : List Int) (k : Nat) (hk : 64 * k + 64 ≤ l.length) : ((l.drop (64 * k)).take 64).length = 64 := by
  rw [List.length_take, List.length_drop]; omega

set_option maxHeartbeats 1000000 in
set_option maxRecDepth 100000 in
theorem digest_any (v : Value) (l : List Int) (w : World) (h : Sl w v l) (hl : l.length ≤ 100000) (ht : TabAt w) :
    Calls Tryz.prog 131 #[v] w fun e w' => ∃ v', e = .returned v' ∧ w'.ownsRow w.heap.size 5 1 v' (dig l).length ((dig l).map (Value.int .u8)) ∧ Below w.heap.size w w' := by
  go_enter Tryz.func131, Tryz.ntmps131
  go_wp2_with fail
  generalize hW0 : w.alloc _ = W0
  have hb0 : Below w.heap.size w W0 := by rw [← hW0]; exact (Below.refl _ _).alloc (Nat.le_refl _) _
  have hr0 : W0.heap[w.heap.size]? = some (.cells (wArr start.list) 225 (0, 0)) := by rw [← hW0]; exact heap_alloc_new _ _
  have hs0 : W0.heap.size = w.heap.size + 1 := by rw [← hW0]; simp
  clear hW0
  refine (padded_any v l W0 (h.below hb0) hl).mono ?_
  rintro e w1 ⟨vp, rfl, hop, hb1⟩
  have hp := pad_length l
  have hpb := pad_byte h.byte
  have sp : Sl w1 vp (pad l) := Sl.ofOwns hop (by omega) hpb
  obtain ⟨g, cp, hv, hgB, hgs, hcp, _, _⟩ := owns_shape hop (by intro e; rw [e] at hp; simp at hp)
  subst hv
  have hB1 : Below w.heap.size w w1 := hb0.trans (hb1.mono hb0.size)
  have hr1 : w1.heap[w.heap.size]? = some (.cells (wArr start.list) 225 (0, 0)) := (hb1.block _ (by omega)).trans hr0
  have HD : Hid (dig l = bytesS (digS (pad l) ((pad l).length / 64))) := rfl
  have hgne : w.heap.size < g := by omega
  clear hb0 hr0 hop hb1 hgB hgs hs0
  generalize pad l = p at HD sp hp hpb hcp ⊢
  obtain ⟨n, hn⟩ : ∃ n, p.length = 64 * n := ⟨p.length / 64, by omega⟩
  have HN : Hid (p.length / 64 = n) := by unfold Hid; omega
  rw [HN.out] at HD
  rw [hn] at sp hcp ⊢
  have hpn : n ≤ 2000 := by omega
  have HP : Hid (p.length = 64 * n) := hn
  clear hn hp
  go_wp2_with fail
  go_loopw [5] (fun i wr => ∃ k : Nat, k ≤ n ∧ i = .int .i64 (64 * (k : Int)) ∧ wr.heap[w.heap.size]? = some (.cells (wArr (digS p k).list) 225 (0, 0)) ∧ Sl wr (.slice (some ⟨g, 0, none⟩) (64 * n) cp) p ∧ Below w.heap.size w wr) (fun i _ => 64 * n - (intOf i).toNat)
  case atStart => exact ⟨0, by omega, rfl, hr1, sp, hB1⟩
  case round =>
    clear hr1 sp hB1
    obtain ⟨k, hk, rfl, hrow, sp, hb⟩ := hrel
    by_cases hkn : k < n
    · have hblk := blocks p k (by rw [HP.out]; omega)
      have HS : Hid (digS p (k + 1) = mixS (digS p k) (sched ((p.drop (64 * k)).take 64))) := rfl
      have ssl : Sl wr (.slice (some ⟨g, 64 * k, none⟩) 64 (cp - 64 * k)) ((p.drop (64 * k)).take 64) := by
        have q1 := Sl.drop (n := 64 * n) (off := 0) sp (64 * k) (by rw [HP.out]; omega) (cp - 64 * k) (by rw [HP.out]; omega)
        rw [Nat.zero_add] at q1
        exact q1.take 64 (by rw [List.length_drop, HP.out]; omega)
      generalize (p.drop (64 * k)).take 64 = bl at hblk HS ssl
      generalize digS p k = S at HS hrow
      have c0 := cell_of_row wr _ 0 _ _ _ hrow
      have c1 := cell_of_row wr _ 1 _ _ _ hrow
      have c2 := cell_of_row wr _ 2 _ _ _ hrow
      have c3 := cell_of_row wr _ 3 _ _ _ hrow
      have c4 := cell_of_row wr _ 4 _ _ _ hrow
      have c5 := cell_of_row wr _ 5 _ _ _ hrow
      have c6 := cell_of_row wr _ 6 _ _ _ hrow
      have c7 := cell_of_row wr _ 7 _ _ _ hrow
      simp only [wArr, St.list, List.map_cons, List.map_nil, List.getElem?_toArray, List.getElem?_cons_zero, List.getElem?_cons_succ] at c0 c1 c2 c3 c4 c5 c6 c7
      have hBlt : w.heap.size < wr.heap.size := (Array.getElem?_eq_some_iff.1 hrow).1
      have ht1 : TabAt wr := ht.below hb
      have hfz : ∀ i, wr.frozen? ⟨w.heap.size, i, none⟩ = false := fun i => frozen_of_row wr _ i _ _ hrow
      have HR : Hid _ := hrow
      have HB : Hid (Below w.heap.size w wr) := hb
      clear hrow hb
      have hw64 : IntKind.i64.wrap (64 * (k : Int) + 64) = 64 * (k : Int) + 64 := by simp only [IntKind.wrap, IntKind.bits, IntKind.signed]; simp; omega
      have hsl := slice64 g n cp k (by omega) hcp
      go_wp2_with fail
      go_region_with (first
        | (go_at_call 176; refine (schedule_any _ bl _ (ssl.below ((Below.refl _ _).drew)) hblk).mono ?_; rintro e w2 ⟨rfl, hb2⟩; have hz2 : w.heap.size < w2.heap.size := Nat.lt_of_lt_of_le hBlt hb2.size; have d0 := (hb2.cell (p := ⟨w.heap.size, 0, none⟩) hBlt).trans c0; have d1 := (hb2.cell (p := ⟨w.heap.size, 1, none⟩) hBlt).trans c1; have d2 := (hb2.cell (p := ⟨w.heap.size, 2, none⟩) hBlt).trans c2; have d3 := (hb2.cell (p := ⟨w.heap.size, 3, none⟩) hBlt).trans c3; have d4 := (hb2.cell (p := ⟨w.heap.size, 4, none⟩) hBlt).trans c4; have d5 := (hb2.cell (p := ⟨w.heap.size, 5, none⟩) hBlt).trans c5; have d6 := (hb2.cell (p := ⟨w.heap.size, 6, none⟩) hBlt).trans c6; have d7 := (hb2.cell (p := ⟨w.heap.size, 7, none⟩) hBlt).trans c7)
        | (go_at_call 175; refine (mixed_any S (sched bl) _ (sched_length bl) (ht1.below ((Below.refl _ _).drew.trans hb2))).mono ?_; rintro e w3 ⟨rfl, hb3⟩; have hz3 : w.heap.size < w3.heap.size := Nat.lt_of_lt_of_le hz2 hb3.size; have hst := store8 (mixS S (sched bl)) (((hb3.block _ hz2).trans (hb2.block _ hBlt)).trans HR.out) (by rfl)))
      all_goals
        clear c0 c1 c2 c3 c4 c5 c6 c7 d0 d1 d2 d3 d4 d5 d6 d7 hst
        have b23 : Below wr.heap.size wr w3 := ((Below.refl wr.heap.size wr).drew.trans hb2).trans (hb3.mono hb2.size)
        go_wp2
        go_roundw
        case rel =>
          refine ⟨k + 1, by omega, by go_num, ?_, (sp.below b23).setRowNe hgne _, below_setRowAt (HB.out.trans (b23.mono HB.out.size)) (Nat.le_refl _) _⟩
          rw [HS.out]
          exact setRow_heap w3 _ _ _ 225 _ ((b23.block _ hBlt).trans HR.out)
        case measure => simp [intOf]; omega
    · have HK : Hid (k = n) := by unfold Hid; omega
      have HR : Hid _ := hrow
      have hsz : (Tryz.prog.info? 225).map (·.size) = some (wArr (digS p k).list).size := by kernel_rfl
      go_wp2_with (refine wpList_load_row rfl 225 _ rfl w.heap.size rfl 225 _ (0, 0) _ hrow Tryz.underlying225 rfl hsz ?_)
      refine (written_any (digS p k) wr).mono ?_
      rintro e w2 ⟨v2, rfl, ho2, hb2⟩
      go_wp2
      go_ret
      refine ⟨v2, rfl, ?_, hb.trans (hb2.mono hb.size)⟩
      rw [HD.out, ← HK.out]
      exact owns_lower ho2 hb.size
end Go.Proofs.YtakgfdbjgeopdaaGreatDoor
/-
  New lists of bytes.
-/
namespace Go.Proofs.YtakgfdbjgeopdaaGreatDoor
open Go.RowKit

/-- a new list of so many bytes, which nothing that was there before shares -/
structure Fresh (w w' : World) (v : Value) (l : List Int) : Prop where
  sl : Sl w' v l
  bel : Below w.heap.size w w'
  shape : ∃ g cap, v = .slice (some ⟨g, 0, none⟩) l.length cap ∧ w.heap.size ≤ g ∧ l.length ≤ cap

set_option maxRecDepth 100000 in
theorem Fresh.ofOwns {w w' : World} {v : Value} {l : List Int} (h : w'.ownsRow w.heap.size 5 1 v l.length (l.map (Value.int .u8))) (hne : l ≠ []) (hl : l.length ≤ 140737488351232) (hb : ∀ x ∈ l, 0 ≤ x ∧ x < 256) (bel : Below w.heap.size w w') : Fresh w w' v l := by
  obtain ⟨g, cap, hv, h1, _, h2, _, _⟩ := owns_shape h hne
  exact ⟨Sl.ofOwns h hl hb, bel, g, cap, hv, h1, h2⟩

set_option maxRecDepth 100000 in
theorem ne_of_length {l : List Int} {n : Nat} (h : l.length = n + 1) : l ≠ [] := by
  intro e; rw [e] at h; simp at h
end Go.Proofs.YtakgfdbjgeopdaaGreatDoor
