/-
  The law's own helper: a copy of lists of votes.
-/
import Derived.Test.YticjofjghpdmpaaDoorLawVotes
import Derived.Test.YticjofjghpdmpaaDoorLawRows
import Derived.Test.YticjofjghpdmpaaDoorVvRow
import Derived.Test.YticjofjghpdmpaaDoorVRows
namespace Go.Proofs.YticjofjghpdmpaaDoor
open Go.RowKit
set_option linter.unusedVariables false

set_option maxHeartbeats 1000000 in
set_option maxRecDepth 100000 in
theorem manyVotes_any (x : Value) (ls : List (List Vt)) (w : World) (h : Svv w x ls) :
    Calls Tryd.prog 19 #[x] w fun e w' => ∃ x', e = .returned x' ∧ Svv w' x' ls ∧ Below w.heap.size w w' := by
  have hlen := h.len
  obtain ⟨a, cp, rfl⟩ := h.shape
  obtain ⟨N, hN⟩ : ∃ N, ls.length = N := ⟨_, rfl⟩
  have HN : Hid (ls.length = N) := hN
  rw [hN] at h hlen ⊢
  clear hN
  go_enter Tryd.func19, Tryd.ntmps19
  go_wp2_with fail
  go_loopw [3, 4] (fun v iv wr => ∃ (j : Nat) (ys : List Value), j ≤ N ∧ iv = .int .i64 (j : Int) ∧ wr.ownsRow w.heap.size 24 1 v j ys ∧ Rv wr ys (ls.take j) ∧ Below w.heap.size w wr) (fun _ iv _ => ((N : Int) - intOf iv).toNat)
  case atStart => exact ⟨0, [], by omega, rfl, World.ownsRow_nil _ _ _ _, ⟨rfl, fun i y l h1 => by simp at h1⟩, Below.refl _ _⟩
  case round =>
    obtain ⟨j, ys, hj, rfl, hown, hrv, hbel⟩ := hrel
    have HO : Hid (wr.ownsRow w.heap.size 24 1 u3 j ys) := hown
    have HR : Hid (Rv wr ys (ls.take j)) := hrv
    clear hown hrv
    by_cases hjN : j < N
    · have hji : (j : Int) < (N : Int) := by omega
      obtain ⟨l, hl⟩ : ∃ l, ls[j]? = some l := ⟨_, List.getElem?_eq_getElem (by have := HN.out; omega)⟩
      obtain ⟨b, off, y, rfl, ltb, hc0, hsy⟩ := (h.below hbel).spot j l hl
      have hix := runIndexS b off N cp j hjN
      have HT : Hid (ls.take (j + 1) = ls.take j ++ [l]) := by
        obtain ⟨hj', e⟩ := List.getElem?_eq_some_iff.1 hl
        unfold Hid
        rw [List.take_succ_eq_append_getElem hj', e]
      have hll := hsy.len
      have hlt := HO.out.lt
      have hz := hbel.size
      obtain ⟨ay, cy, hy⟩ := hsy.shape
      obtain ⟨M, hM⟩ : ∃ M, l.length = M := ⟨_, rfl⟩
      have HM : Hid (l.length = M) := hM
      rw [hM] at hy
      subst hy
      clear hM
      go_wp2_with fail
      refine (votes_any _ l wr hsy).mono ?_
      rintro e w3 ⟨y3, rfl, o3, b3⟩
      obtain ⟨g3, c3, h3⟩ := ownsV_shape o3
      rw [HM.out] at h3
      subst h3
      have hb3 := hbel.trans (b3.mono hbel.size)
      have z3 := b3.size
      have HO3 : Hid (w3.ownsRow w.heap.size 24 1 u3 j ys) := ownsV_keep HO.out (fun k hk => b3.block k (hlt k hk).2)
      have HR3 : Hid (Rv w3 (ys ++ [.slice g3 M c3]) (ls.take j ++ [l])) := (HR.out.below b3).snoc (Ov.of o3) hll
      clear o3 b3 HO HR hc0 hix hsy hbel
      go_wp2_with ((with_reducible (refine pxLook ?_)); at_builtin; refine wpList_append_one _ rfl _ _ 43 rfl w.heap.size 24 1 24 (.slice none 0 0) Tryd.underlying43 infoSv rfl (by decide) _ j ys w3.heap.size [.slice g3 M c3] rfl rfl (HO3.out.alloc _) rfl (one_range (heap_alloc_new _ _)) (by simp [Value.oneCell']) (by omega) (by omega) (by simp; omega) ?_)
      intro v4 w4 o4 g4
      have hb4 : Below w.heap.size w w4 := (hb3.alloc (by omega) _).grown g4 (by simp; omega) (fun k hk => (hlt k hk).1)
      have HR4 : Hid (Rv w4 (ys ++ [.slice g3 M c3]) (ls.take j ++ [l])) := ⟨HR3.out.1, fun i y l h1 h2 => ⟨((HR3.out.2 i y l h1 h2).1.below ((Below.refl _ _).alloc (Nat.le_refl _) _)).grown (HO3.out.alloc _) (by decide) g4, (HR3.out.2 i y l h1 h2).2⟩⟩
      have HO4 : Hid (w4.ownsRow w.heap.size 24 1 v4 (j + 1) (ys ++ [.slice g3 M c3])) := o4
      clear o4 g4 HO3 HR3 hlt
      go_wp2
      go_roundw
      case rel => exact ⟨j + 1, _, by omega, by go_num, HO4.out, by rw [HT.out]; exact HR4.out, hb4⟩
      case measure => simp [intOf]; omega
    · obtain rfl : j = N := by omega
      have ht : ls.take j = ls := List.take_of_length_le (by have := HN.out; omega)
      have HF : Hid (Svv wr u3 ls) := by
        have hr := HR.out
        have ho := HO.out
        rw [ht] at hr
        rw [← HN.out] at ho
        exact Svv.ofRv ho hr (by have := HN.out; omega)
      clear HO HR ht
      go_wp2
      go_ret
      exact ⟨_, rfl, HF.out, hbel⟩
end Go.Proofs.YticjofjghpdmpaaDoor
