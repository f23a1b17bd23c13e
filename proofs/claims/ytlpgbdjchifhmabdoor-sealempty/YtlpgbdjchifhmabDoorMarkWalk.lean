/-
  The walks of a piece with the byte one behind it, and of the factor of a key's first half.
-/
import Derived.Test.YtlpgbdjchifhmabDoorPReadWalk
import Derived.Laws.CopyOwn
namespace Go.Proofs.YtlpgbdjchifhmabDoor
open Go.RowKit

def byA (l : List Int) : Array Value := (l.map (Value.int .u8)).toArray
theorem byA_set (l : List Int) (i : Nat) (x : Int) : (byA l).setIfInBounds i (.int .u8 x) = byA (l.set i x) := by
  apply Array.ext'
  simp [byA, List.map_set]
theorem byA_store {w : World} {g : Nat} {l : List Int} {t : TypeId} (h : w.heap[g]? = some (.cells (byA l) t (0, 0))) (k : Nat) (x : Int) :
    (w.setCell ⟨g, k, none⟩ (.int .u8 x)).heap[g]? = some (.cells (byA (l.set k x)) t (0, 0)) := by
  rw [heap_setCell_same _ _ _ _ _ _ h, byA_set]
theorem byA_get (l : List Int) (i : Nat) (h : i < l.length) : (byA l)[i]? = some (.int .u8 (l.getD i 0)) := by
  simp [byA, List.getD, List.getElem?_eq_getElem h]
theorem info5s : (Tryd.prog.info? 5).map (·.size) = some 1 := by kernel_rfl
theorem splice_zeros (l : List Int) (n : Nat) : splice ((List.replicate n (0 : Int)).map (Value.int .u8)) 0 (l.map (Value.int .u8)) = (l ++ List.replicate (n - l.length) 0).map (Value.int .u8) := by
  have e : (List.replicate n (0 : Int)).map (Value.int .u8) = List.replicate n (Value.int .u8 0) := List.map_replicate
  rw [e]
  simp only [splice, List.take_zero, List.nil_append, List.length_map, Nat.zero_add, List.drop_replicate, List.map_append, List.map_replicate]
theorem Sl.src {w : World} {sp : Option Addr} {n c : Nat} {l : List Int} (h : Sl w (.slice sp n c) l) (hp : 0 < l.length) : ∃ ad, sp = some ad ∧ ∀ (j : Nat) (v : Value), (l.map (Value.int .u8))[j]? = some v → w.cell? (ad.add j) = some v := by
  obtain ⟨⟨a, cap, e, hc, hn, h1⟩, hla, hba⟩ := h
  simp only [Value.slice.injEq] at e
  obtain ⟨rfl, rfl, rfl⟩ := e
  rcases h1 with rfl | ⟨b, off, rfl, _, hcell⟩
  · simp at hp
  · refine ⟨_, rfl, fun j v hj => ?_⟩
    have hjl : j < l.length := by
      have := (List.getElem?_eq_some_iff.1 hj).1
      simpa using this
    have hadd : (⟨b, off, none⟩ : Addr).add j = ⟨b, off + j, none⟩ := by unfold Addr.add; split <;> simp_all
    rw [hadd, hcell j hjl]
    simp [List.getElem?_eq_getElem hjl] at hj
    rw [getD_at hjl, hj]
theorem Sl.ofByA {w : World} {g : Nat} {l : List Int} {t : TypeId} {fr : Nat × Nat} (h : w.heap[g]? = some (.cells (byA l) t fr)) (hl : l.length ≤ 140737488351232) (hb : ∀ x ∈ l, 0 ≤ x ∧ x < 256) : Sl w (.slice (some ⟨g, 0, none⟩) l.length l.length) l := by
  refine ⟨⟨_, l.length, rfl, by simp, by simp, .inr ⟨g, 0, rfl, (Array.getElem?_eq_some_iff.1 h).1, fun i hi => ?_⟩⟩, hl, hb⟩
  rw [cell_of_row _ _ (0 + i) _ _ _ h, Nat.zero_add, byA_get l i hi]
theorem Sl.rowOf {w : World} {g n : Nat} {l : List Int} {t : TypeId} {fr : Nat × Nat} (h : w.heap[g]? = some (.cells (byA l) t fr)) (hn : l.length = n) (hl : l.length ≤ 140737488351232) (hb : ∀ x ∈ l, 0 ≤ x ∧ x < 256) : Sl w (.slice (some ⟨g, 0, none⟩) n n) l := by
  subst hn; exact Sl.ofByA h hl hb

theorem mark_set (l : List Int) (h : l.length ≤ 16) : (l ++ List.replicate (17 - l.length) 0).set l.length 1 = l ++ [1] ++ List.replicate (16 - l.length) 0 := by
  rw [List.set_append_right _ _ (Nat.le_refl _), show 17 - l.length = 16 - l.length + 1 by omega, List.replicate_succ]
  simp
theorem mark_leN (l : List Int) (n : Nat) : leN (l ++ [1] ++ List.replicate n 0) = leN (l ++ [1]) := by
  rw [leN_append, leN_zeros]; omega

set_option maxHeartbeats 1000000 in
set_option maxRecDepth 100000 in
theorem pmarked_any (v : Value) (l : List Int) (w : World) (h : Sl w v l) (hl : l.length ≤ 16) :
    Calls Tryd.prog 30 #[v] w fun e w' => ∃ r, e = .returned (.agg (nArr r)) ∧ Lim 67108864 r ∧ val r % pp = leN (l ++ [1]) % pp ∧ Below w.heap.size w w' := by
  have hs := h
  obtain ⟨⟨a, cap, rfl, hc, hn, h1⟩, hla, hba⟩ := h
  have HBY : Hid (∀ x ∈ l, 0 ≤ x ∧ x < 256) := hba
  have HM := mark_set l hl
  have HML := mark_leN l (16 - l.length)
  clear h1 hba hn
  go_enter Tryd.func30, Tryd.ntmps30
  go_wp2_with (refine wpList_copy_splice rfl _ _ 22 22 rfl 5 Tryd.underlying22 info5s _ _ _ _ _ _ rfl rfl (w.heap.size + 1) 0 ((List.replicate 17 (0 : Int)).map (Value.int .u8)) 61 (heap_alloc2_new _ _ _) (l.map (Value.int .u8)) (by rw [List.length_map]; exact (Nat.min_eq_left (show l.length ≤ 17 by omega)).symm) (fun hp => ⟨rfl, (hs.below (((Below.refl _ _).alloc (Nat.le_refl _) _).alloc (by simp) _)).src (by simpa using hp)⟩) (by rw [List.length_map, List.length_map, List.length_replicate]; omega) (ints_one _) (w.heap.size + 1) _ (Below.refl _ _) (Nat.le_refl _) ?_)
  intro w2 H2 hb2
  have hr2 : w2.heap[w.heap.size + 1]? = some (.cells (byA (l ++ List.replicate (17 - l.length) 0)) 61 (0, 0)) := by
    have h3 : w2.heap[w.heap.size + 1]? = some (.cells (splice ((List.replicate 17 (0 : Int)).map (Value.int .u8)) 0 (l.map (Value.int .u8))).toArray 61 (0, 0)) := H2.out
    rw [splice_zeros] at h3
    exact h3
  have hB2 : Below w.heap.size w w2 := (((Below.refl _ _).alloc (Nat.le_refl _) _).alloc (by simp) _).trans (hb2.mono (by omega))
  have hq2 : w2.heap[w.heap.size]? = some (.cells (nArr [0, 0, 0, 0, 0]) 48 (0, 0)) := by
    rw [hb2.block _ (by omega)]; exact heap_alloc2_old _ _ _
  clear H2 hb2
  have hlen : (l ++ List.replicate (17 - l.length) (0 : Int)).length = 17 := by simp; omega
  have cl := (cell_of_row _ _ l.length _ _ _ hr2).trans (byA_get _ l.length (by omega))
  have fl := frozen_of_row _ _ l.length _ _ hr2
  have hr3 := byA_store hr2 l.length 1
  rw [HM] at hr3
  have hq3 : (w2.setCell ⟨w.heap.size + 1, l.length, none⟩ (.int .u8 1)).heap[w.heap.size]? = some (.cells (nArr [0, 0, 0, 0, 0]) 48 (0, 0)) := (heap_setCell_other _ _ _ _ (by simp)).trans hq2
  have hB3 : Below w.heap.size w (w2.setCell ⟨w.heap.size + 1, l.length, none⟩ (.int .u8 1)) := hB2.setCell (p := ⟨w.heap.size + 1, l.length, none⟩) (by simp) _
  have hzz : w.heap.size < (w2.setCell ⟨w.heap.size + 1, l.length, none⟩ (.int .u8 1)).heap.size := (Array.getElem?_eq_some_iff.1 hq3).1
  have s3 : Sl (w2.setCell ⟨w.heap.size + 1, l.length, none⟩ (.int .u8 1)) (.slice (some ⟨w.heap.size + 1, 0, none⟩) 17 17) (l ++ [1] ++ List.replicate (16 - l.length) 0) := by
    refine Sl.rowOf hr3 (by simp; omega) (by simp; omega) ?_
    intro x hx
    rcases List.mem_append.1 hx with h | h
    · rcases List.mem_append.1 h with h | h
      · exact HBY.out x h
      · simp at h; omega
    · rw [(List.mem_replicate.1 h).2]; omega
  have hlen3 : (l ++ [1] ++ List.replicate (16 - l.length) (0 : Int)).length ≤ 17 := by simp; omega
  have HS3 : Hid _ := s3
  have HHM : Hid (leN (l ++ [1] ++ List.replicate (16 - l.length) 0) = leN (l ++ [1])) := HML
  clear hr3 hr2 HM HML s3 hs
  generalize l ++ [1] ++ List.replicate (16 - l.length) 0 = L at HS3 hlen3 HHM
  generalize (l ++ List.replicate (17 - l.length) (0 : Int)).getD l.length 0 = c0 at cl
  go_wp2_with fail
  refine (read_any _ L _ HS3.out hlen3).mono ?_
  rintro e w4 ⟨r, rfl, lr, vr, hb4⟩
  have hq4 := (hb4.block w.heap.size hzz).trans hq3
  have hB4 : Below w.heap.size w w4 := hB3.trans (hb4.mono hB3.size)
  have hsz2 := nInfo lr.1
  go_wp2_with ((with_reducible (refine wpList_look ?_)); (refine wpList_store_row rfl 48 _ _ rfl (w.heap.size) _ rfl rfl 48 _ hq4 hsz2 (by rw [nArr_size, nArr_size, lr.1]; rfl) (nArr_one r) ?_))
  exact bodyPost_ret (v := .agg (nArr r)) (results_cell_row rfl _ _ (w.heap.size) 48 _ (0, 0) _ rfl (setRow_heap w4 (w.heap.size) _ _ 48 _ hq4) Tryd.underlying48 rfl hsz2) rfl ⟨r, rfl, lr, by rw [vr, HHM.out], below_row hB4 (Nat.le_refl _) _⟩
end Go.Proofs.YtlpgbdjchifhmabDoor
