/-
  The walks of the writing of words as bytes, and of the digest itself.
-/
import Derived.Deep.RegionWith
import Derived.Lib.SlBytesRow
import Derived.Test.YtakgfdbjgeopdabDoorKm1
import Derived.Test.YtakgfdbjgeopdabDoorKm14
import Derived.Test.YtakgfdbjgeopdabDoorKm17
namespace Go.Proofs.YtakgfdbjgeopdabDoor
open Go.RowKit

set_option maxRecDepth 100000 in
theorem written_any (s : St) (w : World) :
    Calls Tryd.prog 57 #[.agg s.cells] w fun e w' => ∃ v', e = .returned v' ∧ w'.ownsRow w.heap.size 5 1 v' (bytesS s).length ((bytesS s).map (Value.int .u8)) ∧ Below w.heap.size w w' := by
  obtain ⟨i0, hi, hz0, hz1, hz2⟩ := info_parts info5
  unfold St.cells
  go_enter Tryd.func57, Tryd.ntmps57
  go_wp2_with (at_make; refine wpList_make_own _ rfl _ _ 23 rfl w.heap.size 5 i0 (.int .u8 0) 1 Tryd.underlying23 hi hz0 hz1 _ _ _ 32 rfl rfl (by omega) (by rw [hz2]; omega) (by unfold maxLen; omega) (by simp) ?_)
  intro w1 ho1 hg1
  have hb1 : Below w.heap.size w w1 := ((Below.refl _ _).alloc (Nat.le_refl _) _).grown hg1 (by simp) (by simp)
  have hrow : w1.heap[w.heap.size]? = some (.cells #[.int .u32 (uw s.a), .int .u32 (uw s.b), .int .u32 (uw s.c), .int .u32 (uw s.d), .int .u32 (uw s.e), .int .u32 (uw s.f), .int .u32 (uw s.g), .int .u32 (uw s.h)] 90 (0, 0)) := by
    rw [hg1.block w.heap.size (by simp) (by simp)]
    exact heap_alloc_new _ _
  have ho1' : w1.ownsRow w.heap.size 5 1 (.slice (some ⟨w.heap.size + 1, 0, none⟩) 0 32) (bytesL (s.list.take 0)).length ((bytesL (s.list.take 0)).map (Value.int .u8)) := ho1
  clear ho1 hg1
  go_wp2_with (refine wpList_load_row rfl 90 _ rfl w.heap.size rfl 90 _ (0, 0) _ hrow Tryd.underlying90 rfl (by kernel_rfl) ?_)
  go_loopw [3, 8] (fun v i wr => ∃ k : Nat, k ≤ 8 ∧ i = .int .i64 k ∧ wr.ownsRow w.heap.size 5 1 v (bytesL (s.list.take k)).length ((bytesL (s.list.take k)).map (Value.int .u8)) ∧ Below w.heap.size w wr) (fun _ i _ => 8 - (intOf i).toNat)
  case atStart => exact ⟨0, by omega, rfl, ho1', hb1⟩
  case round =>
    clear ho1' hb1 hrow
    obtain ⟨k, hk, rfl, hown, hb⟩ := hrel
    have hlt := hown.lt
    by_cases hk8 : k < 8
    · have hix := index8 s k hk8
      have hlen := bytesL_length (s.list.take k)
      have HT : Hid (s.list.take (k + 1) = s.list.take k ++ [s.list.getD k 0#32]) := by
        unfold Hid
        rw [List.take_succ_eq_append_getElem (by simpa [St.list] using hk8)]
        simp [List.getD, List.getElem?_eq_getElem (show k < s.list.length by simpa [St.list] using hk8)]
      have hkl : (s.list.take k).length ≤ 8 := by rw [List.length_take]; omega
      generalize s.list.take k = pre at hown hlen HT hkl
      generalize s.list.getD k 0#32 = x at hix HT
      have nx := uw_lo x
      go_wp2_with (at_builtin; refine wpList_append_sl _ rfl _ _ 23 rfl w.heap.size 5 Tryd.underlying23 info5 _ _ rfl rfl (bytesL pre) (bytesW x) (hown.alloc _) ?_ (by rw [hlen]; simp [bytesW]; omega) (by have := hb.size; simp; omega) ?_)
      · exact Sl.built wr (bytesW x) 5 rfl (by simp [bytesW]) (bytesW_byte x)
      intro v' w' ho hg
      have ho' : w'.ownsRow w.heap.size 5 1 v' (bytesL (pre ++ [x])).length ((bytesL (pre ++ [x])).map (Value.int .u8)) := by
        rw [bytesL_snoc]
        simpa [bytesL_length] using ho
      have hb' : Below w.heap.size w w' := (hb.alloc hb.size _).grown hg (by have := hb.size; simp; omega) (fun k hk => (hlt k hk).1)
      clear ho hg hown hlt hb
      go_wp2
      go_roundw
      case rel => exact ⟨k + 1, by omega, by go_num, by rw [HT.out]; exact ho', hb'⟩
      case measure => simp [intOf]; omega
    · have HK : Hid (k = 8) := by unfold Hid; omega
      go_wp2
      go_ret
      refine ⟨u3, rfl, ?_, hb⟩
      rw [HK.out] at hown
      exact hown

set_option maxRecDepth 100000 in
theorem bcell {W w1 : World} (hb : Below W.heap.size W w1) : (∀ b o, b < W.heap.size → w1.cell? ⟨b, o, none⟩ = W.cell? ⟨b, o, none⟩) ∧ (∀ b o, b < W.heap.size → w1.frozen? ⟨b, o, none⟩ = W.frozen? ⟨b, o, none⟩) :=
  ⟨fun b o h => hb.cell (p := ⟨b, o, none⟩) h, fun b o h => hb.frozen (p := ⟨b, o, none⟩) h⟩

set_option maxRecDepth 100000 in
theorem size5 (w : World) : (Go.sizeOf 5).run Tryd.prog w = .ok 1 w := by
  obtain ⟨i, hi, _, hsz, _⟩ := info_parts info5
  simp [sizeOf, typeInfo, hi, hsz]

set_option maxRecDepth 100000 in
theorem slice64 (g n cp k : Nat) (hk : 64 * k + 64 ≤ 64 * n) (hcp : 64 * n ≤ cp) : ∀ W, (Instr.slice 23 (.slice (some ⟨g, 0, none⟩) (64 * n) cp) (some (.int .i64 (64 * (k : Int)))) (some (.int .i64 (64 * (k : Int) + 64))) none).run Tryd.prog W = .ok (.slice (some ⟨g, 64 * k, none⟩) 64 (cp - 64 * k)) W := by
  intro W
  have := Lib.run_slice_window (P := Tryd.prog) W 23 5 Tryd.underlying23 size5 g 0 (64 * n) cp (64 * k) (64 * k + 64) (by omega) (by omega)
  rw [show 64 * k + 64 - 64 * k = 64 by omega, Nat.zero_add] at this
  rw [← this]
  rfl

set_option maxRecDepth 100000 in
theorem store8 {w : World} {g : Nat} {old : Array Value} (s : St) (hg : w.heap[g]? = some (.cells old 90 (0, 0))) (ho : old.size = 8) : (storeCells ⟨g, 0, none⟩ s.cells.toList).run Tryd.prog w = .ok () (w.setRow g s.cells) := by
  have := run_storeCells_from (P := Tryd.prog) g 90 s.cells.toList 0 old w hg (by simp [St.cells]; omega) (fun v hv => by simp [St.cells] at hv; rcases hv with rfl | rfl | rfl | rfl | rfl | rfl | rfl | rfl <;> rfl)
  simpa using this

set_option maxRecDepth 100000 in
theorem Sl.setRowNe {w : World} {b off n cap : Nat} {l : List Int} (h : Sl w (.slice (some ⟨b, off, none⟩) n cap) l) {g : Nat} (hg : g < b) (cs : Array Value) : Sl (w.setRow g cs) (.slice (some ⟨b, off, none⟩) n cap) l := by
  obtain ⟨⟨a, cap', e, hc, hn, h1⟩, h2, h3⟩ := h
  refine ⟨⟨a, cap', e, hc, hn, ?_⟩, h2, h3⟩
  simp only [Value.slice.injEq] at e
  obtain ⟨rfl, _, _⟩ := e
  rcases h1 with h1 | ⟨b', off', e', hbs, hcell⟩
  · exact .inl h1
  · simp only [Option.some.injEq, Addr.mk.injEq, and_true] at e'
    obtain ⟨rfl, rfl⟩ := e'
    refine .inr ⟨b, off, rfl, by simpa using hbs, fun i hi => ?_⟩
    rw [← hcell i hi]
    exact World.cell?_of_block (w := w) (setRow_other w g b cs (by omega))

set_option maxRecDepth 100000 in
theorem blocks (l : List Int) (k : Nat) (hk : 64 * k + 64 ≤ l.length) : ((l.drop (64 * k)).take 64).length = 64 := by
  rw [List.length_take, List.length_drop]; omega

set_option maxHeartbeats 1000000 in
set_option maxRecDepth 100000 in
theorem digest_any (v : Value) (l : List Int) (w : World) (h : Sl w v l) (hl : l.length ≤ 100000) (ht : TabAt w) :
    Calls Tryd.prog 39 #[v] w fun e w' => ∃ v', e = .returned v' ∧ w'.ownsRow w.heap.size 5 1 v' (dig l).length ((dig l).map (Value.int .u8)) ∧ Below w.heap.size w w' := by
  go_enter Tryd.func39, Tryd.ntmps39
  go_wp2_with fail
  generalize hW0 : w.alloc _ = W0
  have hb0 : Below w.heap.size w W0 := by rw [← hW0]; exact (Below.refl _ _).alloc (Nat.le_refl _) _
  have hr0 : W0.heap[w.heap.size]? = some (.cells (wArr start.list) 90 (0, 0)) := by rw [← hW0]; exact heap_alloc_new _ _
  have hs0 : W0.heap.size = w.heap.size + 1 := by rw [← hW0]; simp
  clear hW0
  refine (padded_any v l W0 (h.below hb0) hl).mono ?_
  rintro e w1 ⟨vp, rfl, hop, hb1⟩
  have hp := pad_length l
  have hpb := pad_byte h.byte
  have sp : Sl w1 vp (pad l) := Sl.ofOwns hop (by omega) hpb
  obtain ⟨g, cp, hv, hgB, hgs, hcp, _, _⟩ := owns_shape hop (by intro e; rw [e] at hp; simp at hp)
  subst hv
  have hB1 : Below w.heap.size w w1 := hb0.trans (hb1.mono hb0.size)
  have hr1 : w1.heap[w.heap.size]? = some (.cells (wArr start.list) 90 (0, 0)) := (hb1.block _ (by omega)).trans hr0
  have HD : Hid (dig l = bytesS (digS (pad l) ((pad l).length / 64))) := rfl
  have hgne : w.heap.size < g := by omega
  clear hb0 hr0 hop hb1 hgB hgs hs0
  generalize pad l = p at HD sp hp hpb hcp ⊢
  obtain ⟨n, hn⟩ : ∃ n, p.length = 64 * n := ⟨p.length / 64, by omega⟩
  have HN : Hid (p.length / 64 = n) := by unfold Hid; omega
  rw [HN.out] at HD
  rw [hn] at sp hcp ⊢
  have hpn : n ≤ 2000 := by omega
  have HP : Hid (p.length = 64 * n) := hn
  clear hn hp
  go_wp2_with fail
  go_loopw [5] (fun i wr => ∃ k : Nat, k ≤ n ∧ i = .int .i64 (64 * (k : Int)) ∧ wr.heap[w.heap.size]? = some (.cells (wArr (digS p k).list) 90 (0, 0)) ∧ Sl wr (.slice (some ⟨g, 0, none⟩) (64 * n) cp) p ∧ Below w.heap.size w wr) (fun i _ => 64 * n - (intOf i).toNat)
  case atStart => exact ⟨0, by omega, rfl, hr1, sp, hB1⟩
  case round =>
    clear hr1 sp hB1
    obtain ⟨k, hk, rfl, hrow, sp, hb⟩ := hrel
    by_cases hkn : k < n
    · have hblk := blocks p k (by rw [HP.out]; omega)
      have HS : Hid (digS p (k + 1) = mixS (digS p k) (sched ((p.drop (64 * k)).take 64))) := rfl
      have ssl : Sl wr (.slice (some ⟨g, 64 * k, none⟩) 64 (cp - 64 * k)) ((p.drop (64 * k)).take 64) := by
        have q1 := Sl.drop (n := 64 * n) (off := 0) sp (64 * k) (by rw [HP.out]; omega) (cp - 64 * k) (by rw [HP.out]; omega)
        rw [Nat.zero_add] at q1
        exact q1.take 64 (by rw [List.length_drop, HP.out]; omega)
      generalize (p.drop (64 * k)).take 64 = bl at hblk HS ssl
      generalize digS p k = S at HS hrow
      have c0 := cell_of_row wr _ 0 _ _ _ hrow
      have c1 := cell_of_row wr _ 1 _ _ _ hrow
      have c2 := cell_of_row wr _ 2 _ _ _ hrow
      have c3 := cell_of_row wr _ 3 _ _ _ hrow
      have c4 := cell_of_row wr _ 4 _ _ _ hrow
      have c5 := cell_of_row wr _ 5 _ _ _ hrow
      have c6 := cell_of_row wr _ 6 _ _ _ hrow
      have c7 := cell_of_row wr _ 7 _ _ _ hrow
      simp only [wArr, St.list, List.map_cons, List.map_nil, List.getElem?_toArray, List.getElem?_cons_zero, List.getElem?_cons_succ] at c0 c1 c2 c3 c4 c5 c6 c7
      have hBlt : w.heap.size < wr.heap.size := (Array.getElem?_eq_some_iff.1 hrow).1
      have ht1 : TabAt wr := ht.below hb
      have hfz : ∀ i, wr.frozen? ⟨w.heap.size, i, none⟩ = false := fun i => frozen_of_row wr _ i _ _ hrow
      have HR : Hid _ := hrow
      have HB : Hid (Below w.heap.size w wr) := hb
      clear hrow hb
      have hw64 : IntKind.i64.wrap (64 * (k : Int) + 64) = 64 * (k : Int) + 64 := by simp only [IntKind.wrap, IntKind.bits, IntKind.signed]; simp; omega
      have hsl := slice64 g n cp k (by omega) hcp
      go_wp2_with fail
      go_region_with (first
        | (go_at_call 56; refine (schedule_any _ bl _ (ssl.below ((Below.refl _ _).drew)) hblk).mono ?_; rintro e w2 ⟨rfl, hb2⟩; have hz2 : w.heap.size < w2.heap.size := Nat.lt_of_lt_of_le hBlt hb2.size; have d0 := (hb2.cell (p := ⟨w.heap.size, 0, none⟩) hBlt).trans c0; have d1 := (hb2.cell (p := ⟨w.heap.size, 1, none⟩) hBlt).trans c1; have d2 := (hb2.cell (p := ⟨w.heap.size, 2, none⟩) hBlt).trans c2; have d3 := (hb2.cell (p := ⟨w.heap.size, 3, none⟩) hBlt).trans c3; have d4 := (hb2.cell (p := ⟨w.heap.size, 4, none⟩) hBlt).trans c4; have d5 := (hb2.cell (p := ⟨w.heap.size, 5, none⟩) hBlt).trans c5; have d6 := (hb2.cell (p := ⟨w.heap.size, 6, none⟩) hBlt).trans c6; have d7 := (hb2.cell (p := ⟨w.heap.size, 7, none⟩) hBlt).trans c7)
        | (go_at_call 55; refine (mixed_any S (sched bl) _ (sched_length bl) (ht1.below ((Below.refl _ _).drew.trans hb2))).mono ?_; rintro e w3 ⟨rfl, hb3⟩; have hz3 : w.heap.size < w3.heap.size := Nat.lt_of_lt_of_le hz2 hb3.size; have hst := store8 (mixS S (sched bl)) (((hb3.block _ hz2).trans (hb2.block _ hBlt)).trans HR.out) (by rfl)))
      all_goals
        clear c0 c1 c2 c3 c4 c5 c6 c7 d0 d1 d2 d3 d4 d5 d6 d7 hst
        have b23 : Below wr.heap.size wr w3 := ((Below.refl wr.heap.size wr).drew.trans hb2).trans (hb3.mono hb2.size)
        go_wp2
        go_roundw
        case rel =>
          refine ⟨k + 1, by omega, by go_num, ?_, (sp.below b23).setRowNe hgne _, below_setRowAt (HB.out.trans (b23.mono HB.out.size)) (Nat.le_refl _) _⟩
          rw [HS.out]
          exact setRow_heap w3 _ _ _ 90 _ ((b23.block _ hBlt).trans HR.out)
        case measure => simp [intOf]; omega
    · have HK : Hid (k = n) := by unfold Hid; omega
      have HR : Hid _ := hrow
      have hsz : (Tryd.prog.info? 90).map (·.size) = some (wArr (digS p k).list).size := by kernel_rfl
      go_wp2_with (refine wpList_load_row rfl 90 _ rfl w.heap.size rfl 90 _ (0, 0) _ hrow Tryd.underlying90 rfl hsz ?_)
      refine (written_any (digS p k) wr).mono ?_
      rintro e w2 ⟨v2, rfl, ho2, hb2⟩
      go_wp2
      go_ret
      refine ⟨v2, rfl, ?_, hb.trans (hb2.mono hb.size)⟩
      rw [HD.out, ← HK.out]
      exact owns_lower ho2 hb.size
end Go.Proofs.YtakgfdbjgeopdabDoor
/-
  New lists of bytes.
-/
namespace Go.Proofs.YtakgfdbjgeopdabDoor
open Go.RowKit

/-- a new list of so many bytes, which nothing that was there before shares -/
structure Fresh (w w' : World) (v : Value) (l : List Int) : Prop where
  sl : Sl w' v l
  bel : Below w.heap.size w w'
  shape : ∃ g cap, v = .slice (some ⟨g, 0, none⟩) l.length cap ∧ w.heap.size ≤ g ∧ l.length ≤ cap

set_option maxRecDepth 100000 in
theorem Fresh.ofOwns {w w' : World} {v : Value} {l : List Int} (h : w'.ownsRow w.heap.size 5 1 v l.length (l.map (Value.int .u8))) (hne : l ≠ []) (hl : l.length ≤ 140737488351232) (hb : ∀ x ∈ l, 0 ≤ x ∧ x < 256) (bel : Below w.heap.size w w') : Fresh w w' v l := by
  obtain ⟨g, cap, hv, h1, _, h2, _, _⟩ := owns_shape h hne
  exact ⟨Sl.ofOwns h hl hb, bel, g, cap, hv, h1, h2⟩

set_option maxRecDepth 100000 in
theorem ne_of_length {l : List Int} {n : Nat} (h : l.length = n + 1) : l ≠ [] := by
  intro e; rw [e] at h; simp at h
end Go.Proofs.YtakgfdbjgeopdabDoor
