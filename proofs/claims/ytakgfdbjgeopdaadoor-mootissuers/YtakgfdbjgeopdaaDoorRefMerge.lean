/-
  What walks of the document's own words share.
-/
import Derived.Test.YtakgfdbjgeopdaaDoorRefRow0
import Derived.Test.YtakgfdbjgeopdaaDoorChaSpec
import Derived.Deep.RegionWith
import Derived.BigRegion
namespace Go.Proofs.YtakgfdbjgeopdaaDoor
open Go.RowKit

theorem word_at (m : Int) (x : BitVec 32) (hm : m % 4294967296 = uw x) (w : World) (h0 : 0 ≤ m) (h1 : m ≤ 9223372036854775807) :
    Calls Tryd.prog 77 #[.int .i64 m] w fun e w' => e = .returned (.int .i64 (uw x)) ∧ w' = w := by
  rw [← hm]
  exact word32_any m w h0 h1

/-- a region that may be walked in several orders, all of which end alike: what follows is walked once -/
theorem region_merge {P : Program} {id : Nat} {ops : Array Oper} {K : Act → World → Prop} {Q : Exit → Act → World → Prop} {a : Act} {w : World} (R : World → Prop) {A : Act}
    (hreg : ∀ K' : Act → World → Prop, Hid (∀ W2, R W2 → K' A W2) → (Code.region id ops true).wp P (Exit.then K' Q) a w) (hrest : ∀ W2, R W2 → K A W2) : (Code.region id ops true).wp P (Exit.then K Q) a w := hreg K hrest

/-- the words ws stand at the head of the row g -/
structure WRow (w : World) (g cap : Nat) (ws : List (BitVec 32)) : Prop where
  ex : ∃ cur, w.heap[g]? = some (.cells cur 3 (0, 0)) ∧ cur.size = cap ∧ ws.length ≤ cap ∧ cur.toList.take ws.length = ws.map iw

theorem WRow.cell {w : World} {g cap : Nat} {ws : List (BitVec 32)} (h : WRow w g cap ws) (i : Nat) (hi : i < ws.length) : w.cell? ⟨g, i, none⟩ = some (.int .i64 (uw (ws.getD i 0#32))) := by
  obtain ⟨cur, hg, hs, hc, ht⟩ := h.ex
  rw [cell_of_row w _ i _ _ _ hg]
  have h1 : (cur.toList.take ws.length)[i]? = (ws.map iw)[i]? := by rw [ht]
  rw [List.getElem?_take, if_pos hi, List.getElem?_map, List.getElem?_eq_getElem hi] at h1
  rw [Array.getElem?_toList] at h1
  rw [h1]
  simp [iw, List.getD, List.getElem?_eq_getElem hi]
theorem WRow.frozen {w : World} {g cap : Nat} {ws : List (BitVec 32)} (h : WRow w g cap ws) (i : Nat) : w.frozen? ⟨g, i, none⟩ = false := by
  obtain ⟨cur, hg, _⟩ := h.ex
  exact frozen_of_row w _ i _ _ hg
theorem WRow.lt {w : World} {g cap : Nat} {ws : List (BitVec 32)} (h : WRow w g cap ws) : g < w.heap.size := by
  obtain ⟨cur, hg, _⟩ := h.ex
  exact (Array.getElem?_eq_some_iff.1 hg).1
theorem WRow.set {w : World} {g cap : Nat} {ws : List (BitVec 32)} (h : WRow w g cap ws) (i : Nat) (_hi : i < ws.length) (x : BitVec 32) : WRow (w.setCell ⟨g, i, none⟩ (.int .i64 (uw x))) g cap (ws.set i x) := by
  obtain ⟨cur, hg, hs, hc, ht⟩ := h.ex
  refine ⟨cur.setIfInBounds i (iw x), ?_, by simp [hs], by simpa using hc, ?_⟩
  · rw [heap_setCell_same _ _ _ _ _ _ hg]; rfl
  · rw [Array.toList_setIfInBounds, List.length_set, List.take_set, ht, List.map_set]
theorem WRow.drewN {w : World} {g cap : Nat} {ws : List (BitVec 32)} (h : WRow w g cap ws) (n : Nat) : WRow (w.drewN n) g cap ws := ⟨h.ex⟩
theorem WRow.drew {w : World} {g cap : Nat} {ws : List (BitVec 32)} (h : WRow w g cap ws) : WRow w.drew g cap ws := ⟨h.ex⟩
theorem WRow.wl {w : World} {g cap : Nat} {ws : List (BitVec 32)} (h : WRow w g cap ws) {n : Nat} (hn : ws.length = n) : Wl w (.slice (some ⟨g, 0, none⟩) n cap) ws := by
  subst hn
  obtain ⟨cur, hg, hs, hc, ht⟩ := h.ex
  exact ⟨g, cap, rfl, h.lt, hc, fun i hi => h.cell i hi⟩
theorem WRow.ofOwns {w : World} {base : Nat} {v : Value} {ws : List (BitVec 32)} (h : w.ownsRow base 3 1 v ws.length (ws.map iw)) (hne : 0 < ws.length) : ∃ g cap, v = .slice (some ⟨g, 0, none⟩) ws.length cap ∧ base ≤ g ∧ WRow w g cap ws := by
  rcases h.2 with ⟨rfl, h0⟩ | ⟨g, cap, cur, rfl, hb, hg, hn, _, hcs, ht⟩
  · omega
  · refine ⟨g, cap, rfl, hb, ⟨cur, hg, by omega, hn, ?_⟩⟩
    rwa [Nat.mul_one] at ht
end Go.Proofs.YtakgfdbjgeopdaaDoor
