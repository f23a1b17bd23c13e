/-
  Rows of bytes in memory, as arrays. No program is named here.
-/
import Derived.Test.YtdhoegkphhekfabDoorShapes
import Derived.Deep.OwnRows
namespace Go.Proofs.YtdhoegkphhekfabDoor
open Go.RowKit

theorem bRow_store {w : World} {g : Nat} {l : List Int} {t : TypeId} (h : w.heap[g]? = some (.cells (bArr l) t (0, 0))) (k : Nat) (x : Int) :
    (w.setCell ⟨g, k, none⟩ (.int .u8 x)).heap[g]? = some (.cells (bArr (l.set k x)) t (0, 0)) := by
  rw [heap_setCell_same _ _ _ _ _ _ h, bArr_set]
theorem Sl.ofBRow {w : World} {g n : Nat} {l : List Int} {t : TypeId} {fr : Nat × Nat} (h : w.heap[g]? = some (.cells (bArr l) t fr)) (hn : l.length = n) (hl : l.length ≤ 140737488351232) (hb : ∀ x ∈ l, 0 ≤ x ∧ x < 256) : Sl w (.slice (some ⟨g, 0, none⟩) n n) l := by
  subst hn
  refine ⟨⟨_, l.length, rfl, by simp, by simp, .inr ⟨g, 0, rfl, (Array.getElem?_eq_some_iff.1 h).1, fun i hi => ?_⟩⟩, hl, hb⟩
  rw [Nat.zero_add]
  exact (cell_of_row w _ i _ _ _ h).trans (bArr_get l i hi)
theorem made_bytes (n : Nat) : madeCells #[Value.int .u8 0] n = bArr (List.replicate n 0) := by
  apply Array.ext'
  rw [toList_madeCells_one]
  simp [bArr]
theorem set_byte {l : List Int} (h : ∀ x ∈ l, 0 ≤ x ∧ x < 256) (k : Nat) {y : Int} (hy : 0 ≤ y ∧ y < 256) : ∀ x ∈ l.set k y, 0 ≤ x ∧ x < 256 := by
  intro x hx
  rcases List.mem_or_eq_of_mem_set hx with h1 | h1
  · exact h x h1
  · rw [h1]; exact hy
theorem zeros_byte (n : Nat) : ∀ x ∈ List.replicate n (0 : Int), 0 ≤ x ∧ x < 256 := fun x hx => by rw [(List.mem_replicate.1 hx).2]; omega
/-- the first k bytes are c -/
def fullL (n : Nat) (c : Int) (k : Nat) : List Int := List.replicate k c ++ List.replicate (n - k) 0
theorem fullL_length (n : Nat) (c : Int) (k : Nat) (h : k ≤ n) : (fullL n c k).length = n := by simp [fullL]; omega
theorem fullL_zero (n : Nat) (c : Int) : fullL n c 0 = List.replicate n 0 := by simp [fullL]
theorem fullL_all (n : Nat) (c : Int) : fullL n c n = List.replicate n c := by simp [fullL]
theorem fullL_set (n : Nat) (c : Int) (k : Nat) (h : k < n) : (fullL n c k).set k c = fullL n c (k + 1) := by
  unfold fullL
  rw [List.set_append_right _ _ (by simp), List.length_replicate, Nat.sub_self, show n - k = (n - (k + 1)) + 1 by omega, List.replicate_succ, List.set_cons_zero, List.replicate_succ' (n := k)]
  simp
theorem fullL_byte (n : Nat) {c : Int} (hc : 0 ≤ c ∧ c < 256) (k : Nat) : ∀ x ∈ fullL n c k, 0 ≤ x ∧ x < 256 := by
  intro x hx
  rcases List.mem_append.1 hx with h | h
  · rw [(List.mem_replicate.1 h).2]; exact hc
  · rw [(List.mem_replicate.1 h).2]; omega
theorem three_rows (w : World) (o1 o2 o3 : Obj) {W : World} (h : ((w.alloc o1).alloc o2).alloc o3 = W) :
    W.heap[w.heap.size]? = some o1 ∧ W.heap[w.heap.size + 1]? = some o2 ∧ W.heap[w.heap.size + 1 + 1]? = some o3 ∧ Below w.heap.size w W := by
  subst h
  refine ⟨?_, ?_, ?_, (((Below.refl _ _).alloc (Nat.le_refl _) _).alloc (by simp) _).alloc (by simp; omega) _⟩
  · rw [heap_alloc_old _ _ (by simp; omega), heap_alloc_old _ _ (by simp), heap_alloc_new]
  · rw [heap_alloc_old _ _ (by simp)]
    have := heap_alloc_new (w.alloc o1) o2
    simpa using this
  · have := heap_alloc_new ((w.alloc o1).alloc o2) o3
    simpa using this
theorem two_rows (w : World) (o1 o2 : Obj) {W : World} (h : (w.alloc o1).alloc o2 = W) :
    W.heap[w.heap.size]? = some o1 ∧ W.heap[w.heap.size + 1]? = some o2 ∧ Below w.heap.size w W := by
  subst h
  refine ⟨?_, ?_, ((Below.refl _ _).alloc (Nat.le_refl _) _).alloc (by simp) _⟩
  · rw [heap_alloc_old _ _ (by simp), heap_alloc_new]
  · have := heap_alloc_new (w.alloc o1) o2
    simpa using this
end Go.Proofs.YtdhoegkphhekfabDoor
