/-
  The walk of the document's copy of votes.
-/
import Derived.Test.YticjofjghpdmpaaDoorPaxLaw
namespace Go.Proofs.YticjofjghpdmpaaDoor
open Go.RowKit
set_option linter.unusedVariables false

set_option maxHeartbeats 1000000 in
set_option maxRecDepth 100000 in
theorem votesCopy_any (x : Value) (l : List Vt) (w : World) (h : Sv w x l) :
    Calls Tryd.prog 33 #[x] w fun e w' => ∃ x', e = .returned x' ∧ w'.ownsRow w.heap.size 39 8 x' l.length (vtL l) ∧ Below w.heap.size w w' := by
  have hlen := h.len
  obtain ⟨a, cp, rfl⟩ := h.shape
  obtain ⟨N, hN⟩ : ∃ N, l.length = N := ⟨_, rfl⟩
  have HN : Hid (l.length = N) := hN
  rw [hN] at h hlen ⊢
  clear hN
  go_enter Tryd.func33, Tryd.ntmps33
  go_wp2_with fail
  go_loopw [3, 4] (fun v iv wr => ∃ j : Nat, j ≤ N ∧ iv = .int .i64 (j : Int) ∧ wr.ownsRow w.heap.size 39 8 v (l.take j).length (vtL (l.take j)) ∧ Below w.heap.size w wr) (fun _ iv _ => ((N : Int) - intOf iv).toNat)
  case atStart => exact ⟨0, by omega, rfl, World.ownsRow_nil _ _ _ _, Below.refl _ _⟩
  case round =>
    obtain ⟨j, hj, rfl, hown, hbel⟩ := hrel
    by_cases hjN : j < N
    · have hji : (j : Int) < (N : Int) := by omega
      obtain ⟨v, hv⟩ : ∃ v, l[j]? = some v := ⟨_, List.getElem?_eq_getElem (by have := HN.out; omega)⟩
      obtain ⟨b, off, rfl, hb, hr⟩ := (h.below hbel).spot j v hv
      have hix := runIndexV b off N cp j hjN
      have hi := sizeVt v
      obtain ⟨vs, ⟨vr, vn⟩, ⟨vk, vc, vq, vm, vx⟩⟩ := v
      simp only [vtC] at hr hi
      have HT : Hid (l.take (j + 1) = l.take j ++ [⟨vs, ⟨vr, vn⟩, ⟨vk, vc, vq, vm, vx⟩⟩]) := take_snocV l j _ hv
      have hl8 : (l.take j).length ≤ N := by rw [List.length_take]; omega
      have HO : Hid (wr.ownsRow w.heap.size 39 8 u3 (l.take j).length (vtL (l.take j))) := hown
      have hlt := hown.lt
      have hz := hbel.size
      clear hown
      generalize l.take j = L at HO HT hl8 hlt
      go_wp2_with ((with_reducible (refine pxLook ?_)); first | (refine wpList_load_mid rfl 39 _ rfl b (off + 8 * j) rfl [.int .i64 vs, .int .i64 vr, .int .i64 vn, .int .i64 vk, .int .i64 vc, .int .i64 vq, .int .i64 vm, .int .i64 vx] _ hr Tryd.underlying39 rfl hi ?_) | (at_builtin; refine wpList_append_vt _ rfl _ _ 24 rfl w.heap.size 39 zVt Tryd.underlying24 infoVt rfl _ _ rfl rfl L [⟨vs, ⟨vr, vn⟩, ⟨vk, vc, vq, vm, vx⟩⟩] (HO.out.alloc _) (Sv.one _ ⟨vs, ⟨vr, vn⟩, ⟨vk, vc, vq, vm, vx⟩⟩ _ rfl) (by simp; omega) (by simp; omega) ?_))
      intro v2 w2 o2 g2
      have hb2 : Below w.heap.size w w2 := (hbel.alloc (by omega) _).grown g2 (by simp; omega) (fun k hk => (hlt k hk).1)
      have HO2 : Hid (w2.ownsRow w.heap.size 39 8 v2 (L ++ [(⟨vs, ⟨vr, vn⟩, ⟨vk, vc, vq, vm, vx⟩⟩ : Vt)]).length (vtL (L ++ [⟨vs, ⟨vr, vn⟩, ⟨vk, vc, vq, vm, vx⟩⟩]))) := by unfold Hid; rw [List.length_append]; exact o2
      clear o2 g2 HO hlt hr hix
      go_wp2
      go_roundw
      case rel => exact ⟨j + 1, by omega, by go_num, by rw [HT.out]; exact HO2.out, hb2⟩
      case measure => simp [intOf]; omega
    · obtain rfl : j = N := by omega
      have HO : Hid (wr.ownsRow w.heap.size 39 8 u3 (l.take j).length (vtL (l.take j))) := hown
      clear hown
      go_wp2
      go_ret
      have ht : l.take j = l := List.take_of_length_le (by have := HN.out; omega)
      have ho := HO.out
      rw [ht] at ho
      exact ⟨_, rfl, HN.out ▸ ho, hbel⟩
end Go.Proofs.YticjofjghpdmpaaDoor
