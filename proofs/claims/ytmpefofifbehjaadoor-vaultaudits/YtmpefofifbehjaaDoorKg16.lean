/-
  The walks of the writing of words as bytes, and of the digest itself.
-/
import Derived.Deep.RegionWith
import Derived.Lib.SlBytesRow
import Derived.Test.YtmpefofifbehjaaDoorKg1
import Derived.Test.YtmpefofifbehjaaDoorKg4
import Derived.Test.YtmpefofifbehjaaDoorKg15
import Derived.Test.YtmpefofifbehjaaDoorKg6
import Derived.Test.YtmpefofifbehjaaDoorKg13
namespace Go.Proofs.YtmpefofifbehjaaDoor
open Go.RowKit

set_option maxRecDepth 100000 in
theorem written_any (s : St) (w : World) :
    Calls Tryd.prog 61 #[.agg s.cells] w fun e w' => ∃ v', e = .returned v' ∧ w'.ownsRow w.heap.size 5 1 v' (bytesS s).length ((bytesS s).map (Value.int .u8)) ∧ Below w.heap.size w w' := by
  obtain ⟨i0, hi, hz0, hz1, hz2⟩ := info_parts info5
  unfold St.cells
  go_enter Tryd.func61, Tryd.ntmps61
  go_wp2_with (at_make; refine wpList_make_own _ rfl _ _ 59 rfl w.heap.size 5 i0 (.int .u8 0) 1 Tryd.underlying59 hi hz0 hz1 _ _ _ 32 rfl rfl (by omega) (by rw [hz2]; omega) (by unfold maxLen; omega) (by simp) ?_)
  intro w1 ho1 hg1
  have hb1 : Below w.heap.size w w1 := ((Below.refl _ _).alloc (Nat.le_refl _) _).grown hg1 (by simp) (by simp)
  have hrow : w1.heap[w.heap.size]? = some (.cells #[.int .u32 (uw s.a), .int .u32 (uw s.b), .int .u32 (uw s.c), .int .u32 (uw s.d), .int .u32 (uw s.e), .int .u32 (uw s.f), .int .u32 (uw s.g), .int .u32 (uw s.h)] 101 (0, 0)) := by
    rw [hg1.block w.heap.size (by simp) (by simp)]
    exact heap_alloc_new _ _
  have ho1' : w1.ownsRow w.heap.size 5 1 (.slice (some ⟨w.heap.size + 1, 0, none⟩) 0 32) (bytesL (s.list.take 0)).length ((bytesL (s.list.take 0)).map (Value.int .u8)) := ho1
  clear ho1 hg1
  go_wp2_with (refine wpList_load_row rfl 101 _ rfl w.heap.size rfl 101 _ (0, 0) _ hrow Tryd.underlying101 rfl (by kernel_rfl) ?_)
  go_loopw [3, 8] (fun v i wr => ∃ k : Nat, k ≤ 8 ∧ i = .int .i64 k ∧ wr.ownsRow w.heap.size 5 1 v (bytesL (s.list.take k)).length ((bytesL (s.list.take k)).map (Value.int .u8)) ∧ Below w.heap.size w wr) (fun _ i _ => 8 - (intOf i).toNat)
  case atStart => exact ⟨0, by omega, rfl, ho1', hb1⟩
  case round =>
    clear ho1' hb1 hrow
    obtain ⟨k, hk, rfl, hown, hb⟩ := hrel
    have hlt := hown.lt
    by_cases hk8 : k < 8
    · have hix := index8 s k hk8
      have hlen := bytesL_length (s.list.take k)
      have HT : Hid (s.list.take (k + 1) = s.list.take k ++ [s.list.getD k 0#32]) := by
        unfold Hid
        rw [List.take_succ_eq_append_getElem (by simpa [St.list] using hk8)]
        simp [List.getD, List.getElem?_eq_getElem (show k < s.list.length by simpa [St.list] using hk8)]
      have hkl : (s.list.take k).length ≤ 8 := by rw [List.length_take]; omega
      generalize s.list.take k = pre at hown hlen HT hkl
      generalize s.list.getD k 0#32 = x at hix HT
      have nx := uw_lo x
      go_wp2_with (at_builtin; refine wpList_append_sl _ rfl _ _ 59 rfl w.heap.size 5 Tryd.underlying59 info5 _ _ rfl rfl (bytesL pre) (bytesW x) (hown.alloc _) ?_ (by rw [hlen]; simp [bytesW]; omega) (by have := hb.size; simp; omega) ?_)
      · exact Sl.built wr (bytesW x) 5 rfl (by simp [bytesW]) (bytesW_byte x)
      intro v' w' ho hg
      have ho' : w'.ownsRow w.heap.size 5 1 v' (bytesL (pre ++ [x])).length ((bytesL (pre ++ [x])).map (Value.int .u8)) := by
        rw [bytesL_snoc]
        simpa [bytesL_length] using ho
      have hb' : Below w.heap.size w w' := (hb.alloc hb.size _).grown hg (by have := hb.size; simp; omega) (fun k hk => (hlt k hk).1)
      clear ho hg hown hlt hb
      go_wp2
      go_roundw
      case rel => exact ⟨k + 1, by omega, by go_num, by rw [HT.out]; exact ho', hb'⟩
      case measure => simp [intOf]; omega
    · have HK : Hid (k = 8) := by unfold Hid; omega
      go_wp2
      go_ret
      refine ⟨u3, rfl, ?_, hb⟩
      rw [HK.out] at hown
      exact hown

set_option maxRecDepth 100000 in
theorem bcell {W w1 : World} (hb : Below W.heap.size W w1) : (∀ b o, b < W.heap.size → w1.cell? ⟨b, o, none⟩ = W.cell? ⟨b, o, none⟩) ∧ (∀ b o, b < W.heap.size → w1.frozen? ⟨b, o, none⟩ = W.frozen? ⟨b, o, none⟩) :=
  ⟨fun b o h => hb.cell (p := ⟨b, o, none⟩) h, fun b o h => hb.frozen (p := ⟨b, o, none⟩) h⟩

set_option maxRecDepth 100000 in
theorem size5 (w : World) : (Go.sizeOf 5).run Tryd.prog w = .ok 1 w := by
  obtain ⟨i, hi, _, hsz, _⟩ := info_parts info5
  simp [sizeOf, typeInfo, hi, hsz]

set_option maxRecDepth 100000 in
theorem slice64 (g n cp k : Nat) (hk : 64 * k + 64 ≤ 64 * n) (hcp : 64 * n ≤ cp) : ∀ W, (Instr.slice 59 (.slice (some ⟨g, 0, none⟩) (64 * n) cp) (some (.int .i64 (64 * (k : Int)))) (some (.int .i64 (64 * (k : Int) + 64))) none).run Tryd.prog W = .ok (.slice (some ⟨g, 64 * k, none⟩) 64 (cp - 64 * k)) W := by
  intro W
  have := Lib.run_slice_window (P := Tryd.prog) W 59 5 Tryd.underlying59 size5 g 0 (64 * n) cp (64 * k) (64 * k + 64) (by omega) (by omega)
  rw [show 64 * k + 64 - 64 * k = 64 by omega, Nat.zero_add] at this
  rw [← this]
  rfl

set_option maxRecDepth 100000 in
theorem store8 {w : World} {g : Nat} {old : Array Value} (s : St) (hg : w.heap[g]? = some (.cells old 101 (0, 0))) (ho : old.size = 8) : (storeCells ⟨g, 0, none⟩ s.cells.toList).run Tryd.prog w = .ok () (w.setRow g s.cells) := by
  have := run_storeCells_from (P := Tryd.prog) g 101 s.cells.toList 0 old w hg (by simp [St.cells]; omega) (fun v hv => by simp [St.cells] at hv; rcases hv with rfl | rfl | rfl | rfl | rfl | rfl | rfl | rfl <;> rfl)
  simpa using this

set_option maxRecDepth 100000 in
theorem Sl.setRowNe {w : World} {b off n cap : Nat} {l : List Int} (h : Sl w (.slice (some ⟨b, off, none⟩) n cap) l) {g : Nat} (hg : g < b) (cs : Array Value) : Sl (w.setRow g cs) (.slice (some ⟨b, off, none⟩) n cap) l := by
  obtain ⟨⟨a, cap', e, hc, hn, h1⟩, h2, h3⟩ := h
  refine ⟨⟨a, cap', e, hc, hn, ?_⟩, h2, h3⟩
  simp only [Value.slice.injEq] at e
  obtain ⟨rfl, _, _⟩ := e
  rcases h1 with h1 | ⟨b', off', e', hbs, hcell⟩
  · exact .inl h1
  · simp only [Option.some.injEq, Addr.mk.injEq, and_true] at e'
    obtain ⟨rfl, rfl⟩ := e'
    refine .inr ⟨b, off, rfl, by simpa using hbs, fun i hi => ?_⟩
    rw [← hcell i hi]
    exact World.cell?_of_block (w := w) (setRow_other w g b cs (by omega))

set_option maxRecDepth 100000 in
theorem blocks (l : List Int) (k : Nat) (hk : 64 * k + 64 ≤ l.length) : ((l.drop (64 * k)).take 64).length = 64 := by
  rw [List.length_take, List.length_drop]; omega

set_option maxHeartbeats 1000000 in
set_option maxRecDepth 100000 in
theorem digest_any (v : Value) (l : List Int) (w : World) (h : Sl w v l) (hl : l.length ≤ 100000) (ht : TabAt w) :
    Calls Tryd.prog 52 #[v] w fun e w' => ∃ v', e = .returned v' ∧ w'.ownsRow w.heap.size 5 1 v' (dig l).length ((dig l).map (Value.int .u8)) ∧ Below w.heap.size w w' := by
  go_enter Tryd.func52, Tryd.ntmps52
  go_wp2_with fail
  generalize hW0 : w.alloc _ = W0
  have hb0 : Below w.heap.size w W0 := by rw [← hW0]; exact (Below.refl _ _).alloc (Nat.le_refl _) _
  have hr0 : W0.heap[w.heap.size]? = some (.cells (wArr start.list) 101 (0, 0)) := by rw [← hW0]; exact heap_alloc_new _ _
  have hs0 : W0.heap.size = w.heap.size + 1 := by rw [← hW0]; simp
  clear hW0
  refine (padded_any v l W0 (h.below hb0) hl).mono ?_
  rintro e w1 ⟨vp, rfl, hop, hb1⟩
  have hp := pad_length l
  have hpb := pad_byte h.byte
  have sp : Sl w1 vp (pad l) := Sl.ofOwns hop (by omega) hpb
  obtain ⟨g, cp, hv, hgB, hgs, hcp, _, _⟩ := owns_shape hop (by intro e; rw [e] at hp; simp at hp)
  subst hv
  have hB1 : Below w.heap.size w w1 := hb0.trans (hb1.mono hb0.size)
  have hr1 : w1.heap[w.heap.size]? = some (.cells (wArr start.list) 101 (0, 0)) := (hb1.block _ (by omega)).trans hr0
  have HD : Hid (dig l = bytesS (digS (pad l) ((pad l).length / 64))) := rfl
  have hgne : w.heap.size < g := by omega
  clear hb0 hr0 hop hb1 hgB hgs hs0
  generalize pad l = p at HD sp hp hpb hcp ⊢
  obtain ⟨n, hn⟩ : ∃ n, p.length = 64 * n := ⟨p.length / 64, by omega⟩
  have HN : Hid (p.length / 64 = n) := by unfold Hid; omega
  rw [HN.out] at HD
  rw [hn] at sp hcp ⊢
  have hpn : n ≤ 2000 := by omega
  have HP : Hid (p.length = 64 * n) := hn
  clear hn hp
  go_wp2_with fail
  go_loopw [5] (fun i wr => ∃ k : Nat, k ≤ n ∧ i = .int .i64 (64 * (k : Int)) ∧ wr.heap[w.heap.size]? = some (.cells (wArr (digS p k).list) 101 (0, 0)) ∧ Sl wr (.slice (some ⟨g, 0, none⟩) (64 * n) cp) p ∧ Below w.heap.size w wr) (fun i _ => 64 * n - (intOf i).toNat)
  case atStart => exact ⟨0, by omega, rfl, hr1, sp, hB1⟩
  case round =>
    clear hr1 sp hB1
    obtain ⟨k, hk, rfl, hrow, sp, hb⟩ := hrel
    by_cases hkn : k < n
    · have hblk := blocks p k (by rw [HP.out]; omega)
      have HS : Hid (digS p (k + 1) = mixS (digS p k) (sched ((p.drop (64 * k)).take 64))) := rfl
      have ssl : Sl wr (.slice (some ⟨g, 64 * k, none⟩) 64 (cp - 64 * k)) ((p.drop (64 * k)).take 64) := by
        have q1 := Sl.drop (n := 64 * n) (off := 0) sp (64 * k) (by rw [HP.out]; omega) (cp - 64 * k) (by rw [HP.out]; omega)
        rw [Nat.zero_add] at q1
        exact q1.take 64 (by rw [List.length_drop, HP.out]; omega)
      generalize (p.drop (64 * k)).take 64 = bl at hblk HS ssl
      generalize digS p k = S at HS hrow
      have c0 := cell_of_row wr _ 0 _ _ _ hrow
      have c1 := cell_of_row wr _ 1 _ _ _ hrow
      have c2 := cell_of_row wr _ 2 _ _ _ hrow
      have c3 := cell_of_row wr _ 3 _ _ _ hrow
      have c4 := cell_of_row wr _ 4 _ _ _ hrow
      have c5 := cell_of_row wr _ 5 _ _ _ hrow
      have c6 := cell_of_row wr _ 6 _ _ _ hrow
      have c7 := cell_of_row wr _ 7 _ _ _ hrow
      simp only [wArr, St.list, List.map_cons, List.map_nil, List.getElem?_toArray, List.getElem?_cons_zero, List.getElem?_cons_succ] at c0 c1 c2 c3 c4 c5 c6 c7
      have hBlt : w.heap.size < wr.heap.size := (Array.getElem?_eq_some_iff.1 hrow).1
      have ht1 : TabAt wr := ht.below hb
      have hfz : ∀ i, wr.frozen? ⟨w.heap.size, i, none⟩ = false := fun i => frozen_of_row wr _ i _ _ hrow
      have HR : Hid _ := hrow
      have HB : Hid (Below w.heap.size w wr) := hb
      clear hrow hb
      have hw64 : IntKind.i64.wrap (64 * (k : Int) + 64) = 64 * (k : Int) + 64 := by simp only [IntKind.wrap, IntKind.bits, IntKind.signed]; simp; omega
      have hsl := slice64 g n cp k (by omega) hcp
      go_wp2_with fail
      go_region_with (first
        | (go_at_call 60; refine (schedule_any _ bl _ (ssl.below ((Below.refl _ _).drew)) hblk).mono ?_; rintro e w2 ⟨rfl, hb2⟩; have hz2 : w.heap.size < w2.heap.size := Nat.lt_of_lt_of_le hBlt hb2.size; have d0 := (hb2.cell (p := ⟨w.heap.size, 0, none⟩) hBlt).trans c0; have d1 := (hb2.cell (p := ⟨w.heap.size, 1, none⟩) hBlt).trans c1; have d2 := (hb2.cell (p := ⟨w.heap.size, 2, none⟩) hBlt).trans c2; have d3 := (hb2.cell (p := ⟨w.heap.size, 3, none⟩) hBlt).trans c3; have d4 := (hb2.cell (p := ⟨w.heap.size, 4, none⟩) hBlt).trans c4; have d5 := (hb2.cell (p := ⟨w.heap.size, 5, none⟩) hBlt).trans c5; have d6 := (hb2.cell (p := ⟨w.heap.size, 6, none⟩) hBlt).trans c6; have d7 := (hb2.cell (p := ⟨w.heap.size, 7, none⟩) hBlt).trans c7)
        | (go_at_call 59; refine (mixed_any S (sched bl) _ (sched_length bl) (ht1.below ((Below.refl _ _).drew.trans hb2))).mono ?_; rintro e w3 ⟨rfl, hb3⟩; have hz3 : w.heap.size < w3.heap.size := Nat.lt_of_lt_of_le hz2 hb3.size; have hst := store8 (mixS S (sched bl)) (((hb3.block _ hz2).trans (hb2.block _ hBlt)).trans HR.out) (by rfl)))
      all_goals
        clear c0 c1 c2 c3 c4 c5 c6 c7 d0 d1 d2 d3 d4 d5 d6 d7 hst
        have b23 : Below wr.heap.size wr w3 := ((Below.refl wr.heap.size wr).drew.trans hb2).trans (hb3.mono hb2.size)
        go_wp2
        go_roundw
        case rel =>
          refine ⟨k + 1, by omega, by go_num, ?_, (sp.below b23).setRowNe hgne _, below_setRowAt (HB.out.trans (b23.mono HB.out.size)) (Nat.le_refl _) _⟩
          rw [HS.out]
          exact setRow_heap w3 _ _ _ 101 _ ((b23.block _ hBlt).trans HR.out)
        case measure => simp [intOf]; omega
    · have HK : Hid (k = n) := by unfold Hid; omega
      have HR : Hid _ := hrow
      have hsz : (Tryd.prog.info? 101).map (·.size) = some (wArr (digS p k).list).size := by kernel_rfl
      go_wp2_with (refine wpList_load_row rfl 101 _ rfl w.heap.size rfl 101 _ (0, 0) _ hrow Tryd.underlying101 rfl hsz ?_)
      refine (written_any (digS p k) wr).mono ?_
      rintro e w2 ⟨v2, rfl, ho2, hb2⟩
      go_wp2
      go_ret
      refine ⟨v2, rfl, ?_, hb.trans (hb2.mono hb.size)⟩
      rw [HD.out, ← HK.out]
      exact owns_lower ho2 hb.size
end Go.Proofs.YtmpefofifbehjaaDoor
/-
  New lists of bytes.
-/
namespace Go.Proofs.YtmpefofifbehjaaDoor
open Go.RowKit

/-- a new list of so many bytes, which nothing that was there before shares -/
structure Fresh (w w' : World) (v : Value) (l : List Int) : Prop where
  sl : Sl w' v l
  bel : Below w.heap.size w w'
  shape : ∃ g cap, v = .slice (some ⟨g, 0, none⟩) l.length cap ∧ w.heap.size ≤ g ∧ l.length ≤ cap

set_option maxRecDepth 100000 in
theorem Fresh.ofOwns {w w' : World} {v : Value} {l : List Int} (h : w'.ownsRow w.heap.size 5 1 v l.length (l.map (Value.int .u8))) (hne : l ≠ []) (hl : l.length ≤ 140737488351232) (hb : ∀ x ∈ l, 0 ≤ x ∧ x < 256) (bel : Below w.heap.size w w') : Fresh w w' v l := by
  obtain ⟨g, cap, hv, h1, _, h2, _, _⟩ := owns_shape h hne
  exact ⟨Sl.ofOwns h hl hb, bel, g, cap, hv, h1, h2⟩

set_option maxRecDepth 100000 in
theorem ne_of_length {l : List Int} {n : Nat} (h : l.length = n + 1) : l ≠ [] := by
  intro e; rw [e] at h; simp at h
end Go.Proofs.YtmpefofifbehjaaDoor
/-
  The walk of sha.Sum.
-/
namespace Go.Proofs.YtmpefofifbehjaaDoor
open Go.RowKit

theorem sum_ok (v : Value) (l : List Int) (w : World) (h : Sl w v l) (hl : l.length ≤ 2000) (ht : TabAt w) :
    Calls Tryd.prog 46 #[v] w fun e w' => ∃ v', e = .returned (.tuple #[v', .int .i64 0]) ∧ Fresh w w' v' (dig l) := by
  have hs := h
  obtain ⟨⟨a, cap, rfl, hc, hn, h1⟩, hla, hba⟩ := h
  clear h1 hba
  go_enter Tryd.func46, Tryd.ntmps46
  go_wp2_with fail
  refine (digest_any _ l w hs (by omega) ht).mono ?_
  rintro e w1 ⟨v1, rfl, ho, hb⟩
  go_wp2
  go_ret2
  exact ⟨v1, rfl, Fresh.ofOwns ho (ne_of_length (dig_length l)) (by rw [dig_length]; omega) (dig_byte l) hb⟩
/-- the same, a row of the call's own -/
theorem sum_own (v : Value) (l : List Int) (w : World) (h : Sl w v l) (hl : l.length ≤ 2000) (ht : TabAt w) :
    Calls Tryd.prog 46 #[v] w fun e w' => ∃ v', e = .returned (.tuple #[v', .int .i64 0]) ∧ w'.ownsRow w.heap.size 5 1 v' 32 ((dig l).map (Value.int .u8)) ∧ Below w.heap.size w w' := by
  have hs := h
  obtain ⟨⟨a, cap, rfl, hc, hn, h1⟩, hla, hba⟩ := h
  clear h1 hba
  go_enter Tryd.func46, Tryd.ntmps46
  go_wp2_with fail
  refine (digest_any _ l w hs (by omega) ht).mono ?_
  rintro e w1 ⟨v1, rfl, ho, hb⟩
  go_wp2
  go_ret2
  rw [dig_length] at ho
  exact ⟨v1, rfl, ho, hb⟩

theorem sum_no (a : Option Addr) (n cap : Nat) (w : World) (hn : 2000 < n) (hn2 : n ≤ 140737488351232) :
    Calls Tryd.prog 46 #[.slice a n cap] w fun e w' => e = .returned (.tuple #[.slice none 0 0, .int .i64 1]) ∧ w' = w := by
  go_enter Tryd.func46, Tryd.ntmps46
  go_wp2
  go_ret2
  exact ⟨rfl, rfl⟩
end Go.Proofs.YtmpefofifbehjaaDoor
/-
  Bytes that outlive a store into a row that holds none. No program is named here.
-/
namespace Go.Proofs.YtmpefofifbehjaaDoor
open Go.RowKit
set_option linter.unusedVariables false

def notByte : Value → Bool
  | .int .u8 _ => false
  | _ => true
theorem noByte_of (cs : Array Value) (h : cs.all notByte = true) : ∀ (i : Nat) (x : Int), cs[i]? ≠ some (.int .u8 x) := by
  intro i x e
  have hm := Array.mem_of_getElem? e
  have := Array.all_eq_true_iff_forall_mem.1 h _ hm
  simp [notByte] at this
/-- a row without bytes is set: bytes stay -/
theorem Sl.otherRow {w : World} {v : Value} {l : List Int} (h : Sl w v l) {g : Nat} {cs : Array Value} {t : TypeId} {fr : Nat × Nat} (hg : w.heap[g]? = some (.cells cs t fr)) (hno : ∀ (i : Nat) (x : Int), cs[i]? ≠ some (.int .u8 x)) (cs' : Array Value) : Sl (w.setRow g cs') v l := by
  obtain ⟨⟨a, cap, rfl, hc, hn, h1⟩, h2, h3⟩ := h
  refine ⟨⟨a, cap, rfl, hc, hn, ?_⟩, h2, h3⟩
  rcases h1 with h1 | ⟨b, off, rfl, hbs, hcell⟩
  · exact .inl h1
  · refine .inr ⟨b, off, rfl, by simpa using hbs, fun i hi => ?_⟩
    have hne : b ≠ g := by
      rintro rfl
      have h7 := hcell i hi
      rw [cell_of_row _ _ _ _ _ _ hg] at h7
      exact hno _ _ h7
    rw [← hcell i hi]
    exact World.cell?_of_block (w := w) (setRow_other w g b cs' hne)
/-- thirty-two bytes in a row of their own -/
structure So (w : World) (g c : Nat) (l : List Int) : Prop where
  sl : Sl w (.slice (some ⟨g, 0, none⟩) 32 c) l
  cel : ∃ cs, w.heap[g]? = some (.cells cs 5)
  len : l.length = 32
theorem So.lt {w : World} {g c : Nat} {l : List Int} (h : So w g c l) : g < w.heap.size := by
  obtain ⟨cs, hg⟩ := h.cel
  exact (Array.getElem?_eq_some_iff.1 hg).1
theorem So.below {w w' : World} {g c : Nat} {l : List Int} (h : So w g c l) (b : Below w.heap.size w w') : So w' g c l := by
  obtain ⟨cs, hg⟩ := h.cel
  exact ⟨h.sl.below b, ⟨cs, (b.block g h.lt).trans hg⟩, h.len⟩
/-- its first cell is a byte -/
theorem So.byte0 {w : World} {g c : Nat} {l : List Int} (h : So w g c l) : ∃ x, w.cell? ⟨g, 0, none⟩ = some (.int .u8 x) := by
  obtain ⟨⟨a, cp, e, _, _, h1⟩, _, _⟩ := h.sl
  rcases h1 with h1 | ⟨b, off, ha, _, hcell⟩
  · have := h.len; rw [h1] at this; cases this
  · simp only [Value.slice.injEq] at e
    obtain ⟨e, _, _⟩ := e
    rw [ha] at e
    simp only [Option.some.injEq, Addr.mk.injEq] at e
    obtain ⟨rfl, rfl, _⟩ := e
    have := hcell 0 (by have := h.len; omega)
    exact ⟨_, this⟩
theorem So.otherRow {w : World} {g c : Nat} {l : List Int} (h : So w g c l) {q : Nat} {cs : Array Value} {t : TypeId} {fr : Nat × Nat} (hg : w.heap[q]? = some (.cells cs t fr)) (hno : ∀ (i : Nat) (x : Int), cs[i]? ≠ some (.int .u8 x)) (cs' : Array Value) : So (w.setRow q cs') g c l := by
  obtain ⟨cs0, hg0⟩ := h.cel
  have hne : g ≠ q := by
    intro e
    subst e
    obtain ⟨x, hx⟩ := h.byte0
    rw [cell_of_row _ _ 0 _ _ _ hg] at hx
    exact hno 0 x hx
  exact ⟨h.sl.otherRow hg hno cs', ⟨cs0, (setRow_other w q g cs' hne).trans hg0⟩, h.len⟩
theorem So.ofOwns {w : World} {base : Nat} {v : Value} {l : List Int} (h : w.ownsRow base 5 1 v 32 (l.map (Value.int .u8))) (hl : l.length = 32) (hb : ∀ x ∈ l, 0 ≤ x ∧ x < 256) : ∃ g c, v = .slice (some ⟨g, 0, none⟩) 32 c ∧ base ≤ g ∧ So w g c l := by
  have hs := Sl.ofOwns (l := l) (by rw [hl]; exact h) (by rw [hl]; omega) hb
  rcases h.2 with ⟨_, h0⟩ | ⟨g, cap, cur, rfl, hbg, hg, _⟩
  · cases h0
  · exact ⟨g, cap, rfl, hbg, hs, ⟨cur, hg⟩, hl⟩
end Go.Proofs.YtmpefofifbehjaaDoor
/-
  The walk of an entry's sum.
-/
namespace Go.Proofs.YtmpefofifbehjaaDoor
open Go.RowKit
set_option linter.unusedVariables false

set_option maxHeartbeats 2000000 in
set_option maxRecDepth 100000 in
theorem vsum_any (a0 : Option Addr) (c0 : Nat) (sum : List Int) (k c q n v C A : Int) (w : World) (hS : Sl w (.slice a0 32 c0) sum) (hl : sum.length = 32) (he : comE k c q n v = 0) (C0 : 0 ≤ C) (C1 : C < 2147483648) (A0 : 0 ≤ A) (A1 : A < 2147483648) (hT : TabAt w) (hN : NTab w) :
    Calls Tryd.prog 39 #[.slice a0 32 c0, .agg #[.int .i64 k, .int .i64 c, .int .i64 q, .int .i64 n, .int .i64 v], .agg #[.int .i64 C, .int .i64 A]] w fun e w' => ∃ g cap, e = .returned (.tuple #[.slice (some ⟨g, 0, none⟩) 32 cap, .int .i64 0]) ∧ w.heap.size ≤ g ∧ So w' g cap (lnk sum ⟨k, c, q, n, v⟩ C A) ∧ Below w.heap.size w w' := by
  have HL : Hid (sum.length = 32) := hl
  clear hl
  have hT0 := hT
  have hN0 := hN
  obtain ⟨W0, hW0⟩ : ∃ W0, (w.alloc (.cells #[.int .i64 k, .int .i64 c, .int .i64 q, .int .i64 n, .int .i64 v] 31)).alloc (.cells #[.int .i64 C, .int .i64 A] 25) = W0 := ⟨_, rfl⟩
  have r0_c : W0.heap[w.heap.size]? = some (.cells #[.int .i64 k, .int .i64 c, .int .i64 q, .int .i64 n, .int .i64 v] 31) := by rw [← hW0]; exact t_alloc2_0 _ _ _
  have r0_a : W0.heap[w.heap.size + 1]? = some (.cells #[.int .i64 C, .int .i64 A] 25) := by rw [← hW0]; exact t_alloc2_1 _ _ _
  have bb : Below w.heap.size w W0 := by rw [← hW0]; exact t_allocB2 _ _ _
  have l0_c : w.heap.size < W0.heap.size := (Array.getElem?_eq_some_iff.1 r0_c).1
  have l0_a : (w.heap.size + 1) < W0.heap.size := (Array.getElem?_eq_some_iff.1 r0_a).1
  have t0_0 := hT.below bb
  have t0_1 := hN.below bb
  have sl0_s := hS.below bb
  go_enter Tryd.func39, Tryd.ntmps39
  go_wp2_with ((with_reducible (refine tpLook ?_)); (refine wpList_load_row rfl 31 _ rfl w.heap.size rfl 31 _ (0, 0) _ r0_c Tryd.underlying31 rfl cmSz5 ?_))
  clear hW0
  have key := encode_any k c q n v W0 t0_1
  rw [he, encL_ok he] at key
  simp only [cmA] at key
  refine (key).mono ?_
  rintro e w1 ⟨v1, rfl, o1, bw1⟩
  have s1 := Sl.ofOwns o1 (by rw [comL_length]; omega) (comL_byte _ _ _ _ _)
  rw [comL_length] at o1
  obtain ⟨g1, c1, rfl⟩ := tOwns_shape o1
  clear o1 key
  have d1 := bb.trans (bw1.mono bb.size)
  have tt1_0 := t0_0.below bw1
  have tt1_1 := t0_1.below bw1
  have rw1_c := (bw1.block _ l0_c).trans r0_c
  have lw1_c := Nat.lt_of_lt_of_le l0_c bw1.size
  have rw1_a := (bw1.block _ l0_a).trans r0_a
  have lw1_a := Nat.lt_of_lt_of_le l0_a bw1.size
  have sl1_s := sl0_s.below bw1
  clear t0_0 t0_1 l0_c r0_c l0_a r0_a sl0_s
  clear bw1
  go_wp2_with ((with_reducible (refine tpLook ?_)); (refine wpList_load_row rfl 25 _ rfl (w.heap.size + 1) rfl 25 _ (0, 0) _ rw1_a Tryd.underlying25 rfl anSize ?_))
  refine (answerBytes_any C A w1 C0 C1 A0 A1).mono ?_
  rintro e w2 ⟨v2, rfl, o2, bw2⟩
  have s2 := Sl.ofOwns o2 (by simp [headL]) (fun x hx => by rcases List.mem_append.1 hx with h | h; (· exact headL_byte _ x h); exact headL_byte _ x h)
  replace o2 : w2.ownsRow _ 5 1 v2 8 _ := o2
  obtain ⟨g2, c2, rfl⟩ := tOwns_shape o2
  clear o2
  have d2 := d1.trans (bw2.mono d1.size)
  have tt2_0 := tt1_0.below bw2
  have tt2_1 := tt1_1.below bw2
  have rw2_c := (bw2.block _ lw1_c).trans rw1_c
  have lw2_c := Nat.lt_of_lt_of_le lw1_c bw2.size
  have rw2_a := (bw2.block _ lw1_a).trans rw1_a
  have lw2_a := Nat.lt_of_lt_of_le lw1_a bw2.size
  have sl2_s := sl1_s.below bw2
  have sl2_m := s1.below bw2
  clear tt1_0 tt1_1 lw1_c rw1_c lw1_a rw1_a sl1_s s1
  clear bw2
  go_wp2_with fail
  refine (concat3 _ _ _ sum (comL k c q n v) (headL C ++ headL A) w2 _ _ rfl sl2_s sl2_m s2 (by rw [HL.out]; omega) (by rw [comL_length]; omega) (by simp [headL]) (by rw [HL.out]; omega)).mono ?_
  rintro e w3 ⟨v3, rfl, o3, b3⟩
  have l3 : (sum ++ (comL k c q n v ++ (headL C ++ headL A))).length = 60 := by rw [List.length_append, HL.out, List.length_append, comL_length]; rfl
  have s3 := Sl.ofOwns o3 (by rw [l3]; omega) (fun x hx => by rcases List.mem_append.1 hx with h | h; (· exact sl2_s.byte x h); rcases List.mem_append.1 h with h | h; (· exact comL_byte _ _ _ _ _ x h); rcases List.mem_append.1 h with h | h; (· exact headL_byte _ x h); exact headL_byte _ x h)
  rw [l3] at o3
  obtain ⟨g3, c3, rfl⟩ := tOwns_shape o3
  clear o3
  have d3 := d2.trans (b3.mono d2.size)
  have tt3_0 := tt2_0.below b3
  have tt3_1 := tt2_1.below b3
  have rw3_c := (b3.block _ lw2_c).trans rw2_c
  have lw3_c := Nat.lt_of_lt_of_le lw2_c b3.size
  have rw3_a := (b3.block _ lw2_a).trans rw2_a
  have lw3_a := Nat.lt_of_lt_of_le lw2_a b3.size
  clear tt2_0 tt2_1 lw2_c rw2_c lw2_a rw2_a
  clear b3
  have l60 : (sum ++ (comL k c q n v ++ (headL C ++ headL A))).length ≤ 2000 := by rw [l3]; omega
  clear l3
  go_wp2_with fail
  refine (sum_own _ (sum ++ (comL k c q n v ++ (headL C ++ headL A))) w3 s3 l60 tt3_0).mono ?_
  rintro e w4 ⟨v4, rfl, o4, b4⟩
  obtain ⟨g4, c4, rfl, hg4, s4⟩ := So.ofOwns o4 (dig_length _) (dig_byte _)
  have dd := d3.trans (b4.mono d3.size)
  have hge : w.heap.size ≤ g4 := Nat.le_trans d3.size hg4
  have HS4 : Hid (So w4 g4 c4 (lnk sum ⟨k, c, q, n, v⟩ C A)) := s4
  clear s4 s3 b4 hg4 l60 o4
  go_wp2
  go_ret2
  exact ⟨g4, c4, rfl, hge, HS4.out, dd⟩
end Go.Proofs.YtmpefofifbehjaaDoor
