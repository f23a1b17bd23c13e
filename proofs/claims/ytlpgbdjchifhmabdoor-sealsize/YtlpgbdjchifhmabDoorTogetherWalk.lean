/-
  The walk of the tag: a number's lowest bytes and a key's last half, added.
-/
import Derived.Test.YtlpgbdjchifhmabDoorByteWalk
import Derived.Test.YtlpgbdjchifhmabDoorMarkWalk
import Derived.Deep.RegionWith
import Derived.Deep.OwnRows
namespace Go.Proofs.YtlpgbdjchifhmabDoor
open Go.RowKit

/-- a region that may be walked in several orders, all of which end alike -/
theorem region_merge0 {P : Program} {id : Nat} {ops : Array Oper} {K : Act → World → Prop} {Q : Exit → Act → World → Prop} {a : Act} {w : World} (R : World → Prop) {A : Act}
    (hreg : ∀ K' : Act → World → Prop, Hid (∀ W2, R W2 → K' A W2) → (Code.region id ops true).wp P (Exit.then K' Q) a w) (hrest : ∀ W2, R W2 → K A W2) : (Code.region id ops true).wp P (Exit.then K Q) a w := hreg K hrest

set_option maxHeartbeats 2000000 in
set_option maxRecDepth 100000 in
theorem together_any (nl : List Int) (v : Value) (s : List Int) (w : World) (h : Sl w v s) (hl : s.length = 16) (hn : Lim 67108864 nl) :
    Calls Tryd.prog 22 #[.agg (nArr nl), v] w fun e w' => ∃ v', e = .returned v' ∧ Sl w' v' (leB 16 (val nl + leN s)) ∧ Below w.heap.size w w' := by
  obtain ⟨⟨a, cap, rfl, hc, hn0, h1⟩, hla, hba⟩ := h
  rcases h1 with rfl | ⟨B, off, rfl, hB, hcell⟩
  · simp at hl
  have HC : Hid (∀ i, i < 16 → w.cell? ⟨B, off + i, none⟩ = some (.int .u8 (s.getD i 0))) := fun i hi => hcell i (by omega)
  have HBY : Hid (∀ x ∈ s, 0 ≤ x ∧ x < 256) := hba
  have HS16 : Hid (s.length = 16) := hl
  rw [hl] at hc ⊢
  clear hcell hba hn0 hla
  obtain ⟨n0, n1, n2, n3, n4, rfl, _⟩ := hn.split
  obtain ⟨V, hV⟩ : ∃ V, val [n0, n1, n2, n3, n4] = V := ⟨_, rfl⟩
  have HV : Hid (val [n0, n1, n2, n3, n4] = V) := hV
  rw [hV]
  clear hV
  obtain ⟨i0, hi0, hz0, hz1, hz2⟩ := info_parts info5
  go_enter Tryd.func22, Tryd.ntmps22
  go_wp2_with (at_make; refine wpList_make_row _ rfl _ _ 22 rfl 5 i0 (.int .u8 0) Tryd.underlying22 hi0 hz0 hz1 rfl _ _ 16 rfl rfl (by rw [hz2]; omega) (by omega) ?_)
  clear hi0 hz0 hz1 hz2
  go_loopw [6, 11] (fun cv i wr => ∃ (k : Nat), k ≤ 16 ∧ i = .int .i64 k ∧ cv = .int .i64 (carP (fun j => byteN V j + s.getD j 0) k) ∧ wr.heap[w.heap.size]? = some (.cells (nArr [n0, n1, n2, n3, n4]) 48 (0, 0)) ∧ wr.heap[w.heap.size + 1]? = some (.cells (byA (tagP (V + leN s) k)) 5 (0, 0)) ∧ Below w.heap.size w wr) (fun _ i _ => 16 - (intOf i).toNat)
  case atStart =>
    refine ⟨0, by omega, rfl, by rw [carP_zero], ?_, ?_, ?_⟩
    · exact heap_alloc2_old _ _ _
    · have e : madeCells #[Value.int .u8 0] 16 = byA (tagP (V + leN s) 0) := by rw [tagP_zero]; kernel_rfl
      rw [e]; exact heap_alloc2_new _ _ _
    · exact ((Below.refl _ _).alloc (Nat.le_refl _) _).alloc (by simp) _
  case round =>
    obtain ⟨k, hk, rfl, rfl, hr, ht, hb⟩ := hrel
    by_cases hk16 : k < 16
    · have hki : (k : Int) < 16 := by omega
      have kn0 := (cell_of_row _ _ 0 _ _ _ hr).trans (nArr_get _ 0 (by simp))
      have kn1 := (cell_of_row _ _ 1 _ _ _ hr).trans (nArr_get _ 1 (by simp))
      have kn2 := (cell_of_row _ _ 2 _ _ _ hr).trans (nArr_get _ 2 (by simp))
      have kn3 := (cell_of_row _ _ 3 _ _ _ hr).trans (nArr_get _ 3 (by simp))
      have kn4 := (cell_of_row _ _ 4 _ _ _ hr).trans (nArr_get _ 4 (by simp))
      simp only [List.getD_cons_zero, List.getD_cons_succ] at kn0 kn1 kn2 kn3 kn4
      have hzr : w.heap.size + 1 < wr.heap.size := (Array.getElem?_eq_some_iff.1 ht).1
      have hBr : B < wr.heap.size := by omega
      have ch := (hb.cell (p := ⟨B, off + k, none⟩) hB).trans (HC.out k hk16)
      have hby : ∀ j, 0 ≤ byteN V j + s.getD j 0 ∧ byteN V j + s.getD j 0 < 1000 := fun j => by
        have b1 := byteN_range V j
        have b2 := getD_byte HBY.out j
        omega
      have hcr := carP_range (fun j => byteN V j + s.getD j 0) hby k
      have HCS : Hid (carP (fun j => byteN V j + s.getD j 0) (k + 1) = (carP (fun j => byteN V j + s.getD j 0) k + (byteN V k + s.getD k 0)) / 256) := carP_succ _ k
      have HCB : Hid ((carP (fun j => byteN V j + s.getD j 0) k + (byteN V k + s.getD k 0)) % 256 = byteN (V + leN s) k) := carP_sum V s k hk16 (by rw [HS16.out]; omega)
      have b1 := byteN_range V k
      have b2 := getD_byte HBY.out k
      have hat := byteAt_any [n0, n1, n2, n3, n4] k
      rw [HV.out] at hat
      have HAT : Hid (∀ W, Calls Tryd.prog 28 #[.agg (nArr [n0, n1, n2, n3, n4]), .int .i64 k] W fun e w' => e = .returned (.int .u8 (byteN V k)) ∧ Below W.heap.size W w') := fun W => hat W hn hk16
      have HT : Hid _ := ht
      have HR : Hid _ := hr
      have HB : Hid _ := hb
      clear hat hby ht hr hb
      have htl := tagP_length (V + leN s) k
      have HTS : Hid ((tagP (V + leN s) k).set k (byteN (V + leN s) k) = tagP (V + leN s) (k + 1)) := tagP_succ _ k hk16
      generalize carP (fun j => byteN V j + s.getD j 0) k = cy at HCS HCB hcr
      generalize byteN V k = x at HCS HCB b1 HAT
      generalize s.getD k 0 = y at HCS HCB b2 ch
      obtain ⟨x1, x2⟩ := b1
      obtain ⟨y1, y2⟩ := b2
      obtain ⟨z1, z2⟩ := hcr
      go_wp2_with fail
      apply region_merge0 (fun W => Below wr.heap.size wr W)
      · intro K2 HK2
        go_region_with (go_at_call 28; refine (HAT.out _).mono ?_; rintro e w2 ⟨rfl, hb2⟩; have ch2 := (hb2.cell (p := ⟨B, off + k, none⟩) hBr).trans ch)
        all_goals exact HK2.out _ ((Below.refl _ _).drew.trans hb2)
      intro W hW
      have ht := (hW.block _ hzr).trans HT.out
      have hr := (hW.block _ (by omega)).trans HR.out
      have ct := (cell_of_row _ _ k _ _ _ ht).trans (byA_get _ k (by omega))
      have ft := frozen_of_row _ _ k _ _ ht
      have hB2 : Below w.heap.size w W := HB.out.trans (hW.mono HB.out.size)
      clear kn0 kn1 kn2 kn3 kn4 ch
      generalize (tagP (V + leN s) k).getD k 0 = c0 at ct
      go_wp2
      go_roundw
      case rel =>
        refine ⟨k + 1, by omega, by go_num, ?_, ?_, ?_, ?_⟩
        · rw [HCS.out]
        · exact (heap_setCell_other _ _ _ _ (by simp)).trans hr
        · have h1 := byA_store ht k (byteN (V + leN s) k)
          rw [HTS.out, ← HCB.out] at h1
          exact h1
        · exact hB2.setCell (p := ⟨w.heap.size + 1, k, none⟩) (by simp) _
      case measure => simp [intOf]; omega
    · have hki : ¬ (k : Int) < 16 := by omega
      have HK : Hid (k = 16) := by unfold Hid; omega
      go_wp2
      go_ret
      have hK := HK.out
      subst hK
      rw [tagP_all] at ht
      exact ⟨_, rfl, Sl.rowOf ht (leB_length _ _) (by rw [leB_length]; omega) (leB_byte _ _), hb⟩
end Go.Proofs.YtlpgbdjchifhmabDoor
